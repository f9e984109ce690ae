/-
  The walk of the document's Set; its State of any node.
-/
import Derived.Test.YtjdfacjfpdfafaaHo
namespace Go.Proofs.Ytjdfacjfpdfafaa
open Go.RowKit

/-- There is no node 0. -/
def Z0 (S : List Nd) : Prop := ∀ x, S[0]? = some x → x.W = 0
theorem rdstate_any {w : World} {q r : Nat} {S : List Nd} (h : IsD w q r S) (h0 : Z0 S) (hok : ∀ x ∈ S, x.Ok) (a : Int) (ha : 0 ≤ a) : Calls Try.prog 42 #[pt q, .int .u8 a] w fun e w' => e = .returned (.tuple #[.int .u8 (stV S a).1, .bool (stV S a).2]) ∧ w' = w := by
  by_cases hb : 127 < a
  · have e : stV S a = (0, false) := by unfold stV; split; rfl; rw [if_neg]; rintro ⟨h1, _⟩; have := ndB_of h1; omega
    rw [e]
    exact rstate_big q a hb w
  obtain ⟨k, rfl⟩ : ∃ k : Nat, a = k := ⟨a.toNat, by omega⟩
  obtain ⟨x, hx⟩ : ∃ x, S[k]? = some x := ⟨_, List.getElem?_eq_getElem (by have := h.sl; omega)⟩
  have hx' : S[(k : Int).toNat]? = some x := hx
  have o := (hok x (List.mem_of_getElem? hx)).1
  have e : stV S (k : Int) = (if x.W ≠ 0 ∧ x.on = true then x.s else 0, decide (x.W ≠ 0) && x.on) := by
    unfold stV
    rw [hx']
    dsimp only
    by_cases hW : x.W = 0
    · rw [if_neg (by omega)]
      simp [hW]
    · have hk : ndB (k : Int) = true := ndB_t (by
        rcases Nat.eq_zero_or_pos k with rfl | hk
        · exact absurd (h0 x hx) hW
        · omega) (by omega)
      have hp : 0 < x.W := by omega
      cases hq : x.on <;> simp [hk, hp, hW]
  rw [e]
  exact rstate_at h hx (by omega)
set_option linter.unusedSimpArgs false in
set_option maxHeartbeats 4000000 in
set_option maxRecDepth 100000 in
theorem rset_bad (q : Nat) (a W : Int) (h : ndB a = false ∨ tmB W = false) (w : World) : Calls Try.prog 19 #[pt q, .int .u8 a, .int .i64 W] w fun e w' => e = .returned (.int .i64 2) ∧ w' = w := by
  have I2 := fun w => time_any W w
  by_cases h1 : a < 1
  · clear h I2
    go_enter Try.func19, Try.ntmps19
    go_wp2_with fail
    go_ret
    exact ⟨rfl, rfl⟩
  by_cases h2 : 127 < a
  · clear h I2
    go_enter Try.func19, Try.ntmps19
    go_wp2_with fail
    go_ret
    exact ⟨rfl, rfl⟩
  have hy : tmB W = false := by rcases h with h | h; (have := ndB_no h; omega); exact h
  rw [hy] at I2
  clear h
  go_enter Try.func19, Try.ntmps19
  go_wp2_with fail
  refine (I2 _).mono ?_
  rintro e w1 ⟨rfl, rfl⟩
  go_wp2_with fail
  go_ret
  exact ⟨rfl, rfl⟩
set_option linter.unusedSimpArgs false in
set_option maxHeartbeats 4000000 in
set_option maxRecDepth 100000 in
theorem rset_at {w : World} {q r k : Nat} {S : List Nd} (h : IsD w q r S) {x : Nd} (hx : S[k]? = some x) (hk : 1 ≤ k ∧ k ≤ 127) (W : Int) (hW : tmB W = true) :
    Calls Try.prog 19 #[pt q, .int .u8 (k : Int), .int .i64 W] w fun e w' => if 0 < W ∧ x.W = 0 ∧ 16 ≤ cntS S 128 then e = .returned (.int .i64 3) ∧ w' = w else e = .returned (.int .i64 0) ∧ w' = w.setRow r (rowD (S.set k (fresh W))) := by
  have I2 := fun w => time_any W w
  rw [hW] at I2
  have c0 := h.c0
  have d0 := h.cell hx 0 _ rfl
  rw [Nat.add_zero] at d0
  have ST := h.store (k := k) (by omega) (fresh W)
  rw [show (fresh W).D.toArray = #[.int .i64 W, .bool false, .bool false, .int .u8 0, .int .i64 0] from rfl] at ST
  have g1 : ¬ (k : Int) < 1 := by omega
  have g2 : ¬ (127 : Int) < (k : Int) := by omega
  have gk0 : (0 : Int) ≤ (k : Int) := by omega
  have gk1 : (k : Int) < 128 := by omega
  have gn : k < 128 := by omega
  have HD : Hid (IsD w q r S) := h
  obtain ⟨xW, hxW⟩ : ∃ xW, xW = x.W := ⟨_, rfl⟩
  rw [← hxW] at d0 ⊢
  obtain ⟨Post, hPost⟩ : ∃ Post : Ending → World → Prop, Post = fun e w' => if 0 < W ∧ xW = 0 ∧ 16 ≤ cntS S 128 then e = .returned (.int .i64 3) ∧ w' = w else e = .returned (.int .i64 0) ∧ w' = w.setRow r (rowD (S.set k (fresh W))) := ⟨_, rfl⟩
  obtain ⟨N, hN⟩ : ∃ N, Hid (N = cntS S 128) := ⟨_, rfl⟩
  have PY : Hid (0 < W ∧ xW = 0 ∧ 16 ≤ N → Post (.returned (.int .i64 3)) w) := fun hc => by rw [hPost, hN.out] at *; rw [if_pos hc]; exact ⟨rfl, rfl⟩
  have PN : Hid (¬ (0 < W ∧ xW = 0 ∧ 16 ≤ N) → Post (.returned (.int .i64 0)) (w.setRow r (rowD (S.set k (fresh W))))) := fun hc => by rw [hPost, hN.out] at *; rw [if_neg hc]; exact ⟨rfl, rfl⟩
  rw [← hPost]
  clear h hx hW hxW hk x hPost
  go_enter Try.func19, Try.ntmps19
  go_wp2_with fail
  refine (I2 _).mono ?_
  rintro e w1 ⟨rfl, rfl⟩
  go_wp2_with fail
  go_loopw [7, 8] (fun c iv wr => ∃ j : Nat, j ≤ 128 ∧ iv = .int .i64 (j : Int) ∧ c = .int .i64 (cntS S j : Nat) ∧ wr = w1) (fun _ iv _ => 128 - (intOf iv).toNat)
  case atStart => exact ⟨0, Nat.zero_le _, rfl, rfl, rfl⟩
  case round =>
    obtain ⟨j, hj, rfl, rfl, rfl⟩ := hrel
    by_cases hj8 : j < 128
    · clear I2 d0 ST g1 g2 gk0 gk1 gn
      have gk : (j : Int) < 128 := by omega
      have gk0 : (0 : Int) ≤ (j : Int) := by omega
      have wk : IntKind.i64.wrap ((j : Int) + 1) = ((j + 1 : Nat) : Int) := by rw [IntKind.wrap_i64]; omega
      have cl := cntS_le S j
      have wc : IntKind.i64.wrap ((cntS S j : Nat) + 1 : Int) = (cntS S j : Nat) + 1 := w64 _ (by omega) (by omega)
      obtain ⟨y, hy⟩ : ∃ y, S[j]? = some y := ⟨_, List.getElem?_eq_getElem (by have := HD.out.sl; omega)⟩
      have e0 := HD.out.cell hy 0 _ rfl
      rw [Nat.add_zero] at e0
      have CS : Hid (cntS S (j + 1) = cntS S j + (if decide (0 < y.W) = true then 1 else 0)) := cntS_succ hy
      clear hy
      by_cases hW : 0 < y.W
      · go_wp2_with fail
        exact ⟨⟨j + 1, by omega, by go_num, by rw [CS.out]; simp [hW], trivial⟩, by simp [intOf]; omega⟩
      · go_wp2_with fail
        exact ⟨⟨j + 1, by omega, by go_num, by rw [CS.out]; simp [hW], trivial⟩, by simp [intOf]; omega⟩
    · obtain rfl : j = 128 := by omega
      rw [← hN.out]
      clear I2
      by_cases hc : 0 < W ∧ xW = 0 ∧ 16 ≤ N
      · have hz : (xW == 0) = true := by simpa using hc.2.1
        have h1 := hc.1
        have h16 : (16 : Int) ≤ (N : Nat) := by have := hc.2.2; omega
        have F : Hid _ := PY.out hc
        clear hc ST PY PN
        go_wp2_with fail
        exact F.out
      · have F : Hid _ := PN.out hc
        clear PY PN
        by_cases h1 : 0 < W
        · cases hz : (xW == 0) with
          | true =>
            have h16 : ¬ (16 : Int) ≤ (N : Nat) := by
              intro h
              exact hc ⟨h1, by simpa using hz, by omega⟩
            clear hc
            go_wp2_with (refine wpList_store_by rfl 89 _ _ rfl ⟨r, k * 5, none⟩ _ rfl rfl ST ?_)
            exact F.out
          | false =>
            clear hc
            go_wp2_with (refine wpList_store_by rfl 89 _ _ rfl ⟨r, k * 5, none⟩ _ rfl rfl ST ?_)
            exact F.out
        · clear hc
          go_wp2_with (refine wpList_store_by rfl 89 _ _ rfl ⟨r, k * 5, none⟩ _ rfl rfl ST ?_)
          exact F.out
theorem rset_any {w : World} {q r : Nat} {S : List Nd} (h : IsD w q r S) (a W : Int) (h0 : 0 ≤ a) : Calls Try.prog 19 #[pt q, .int .u8 a, .int .i64 W] w fun e w' => e = .returned (.int .i64 (setC S a W)) ∧ IsD w' q r (setL S a W) ∧ Kp [r] w w' := by
  by_cases hx : ndB a = false ∨ tmB W = false
  · rw [setL_no (by rw [setC_bad hx]; decide), setC_bad hx]
    refine (rset_bad q a W hx w).mono ?_
    rintro e w' ⟨rfl, rfl⟩
    exact ⟨rfl, h, Kp.refl _ _⟩
  have ha : ndB a = true := by cases q : ndB a; exact absurd (.inl q) hx; rfl
  have hW : tmB W = true := by cases q : tmB W; exact absurd (.inr q) hx; rfl
  obtain ⟨k, rfl⟩ : ∃ k : Nat, a = k := ⟨a.toNat, by omega⟩
  have hn := ndB_of ha
  obtain ⟨x, hx'⟩ : ∃ x, S[k]? = some x := ⟨_, List.getElem?_eq_getElem (by have := h.sl; omega)⟩
  have hw := tmB_of hW
  have F := h.put k (fresh W)
  refine (rset_at h hx' (by omega) W hW).mono ?_
  intro e w' hr
  by_cases hz : W = 0
  · subst hz
    rw [if_neg (by omega)] at hr
    obtain ⟨rfl, rfl⟩ := hr
    rw [setL_ok (setC_zero ha), setC_zero ha]
    exact ⟨rfl, F⟩
  have hS := setC_at (S := S) ha hW hz (x := x) hx'
  by_cases hq : x.W = 0 ∧ 16 ≤ cntS S 128
  · rw [if_pos hq] at hS
    rw [if_pos ⟨by omega, hq⟩] at hr
    obtain ⟨rfl, rfl⟩ := hr
    rw [setL_no (by rw [hS]; decide), hS]
    exact ⟨rfl, h, Kp.refl _ _⟩
  · rw [if_neg hq] at hS
    rw [if_neg (fun hh => hq hh.2)] at hr
    obtain ⟨rfl, rfl⟩ := hr
    rw [setL_ok hS, hS]
    exact ⟨rfl, F⟩
#print axioms rset_any
end Go.Proofs.Ytjdfacjfpdfafaa
