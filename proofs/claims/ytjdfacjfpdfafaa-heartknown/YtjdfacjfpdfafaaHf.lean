/-
  The walks of late, news, NewWatch, a watch's State and Set.
-/
import Derived.Test.YtjdfacjfpdfafaaHe
namespace Go.Proofs.Ytjdfacjfpdfafaa
open Go.RowKit

set_option linter.unusedSimpArgs false in
set_option maxHeartbeats 4000000 in
set_option maxRecDepth 100000 in
theorem late_any {w : World} {b : Nat} {x : Nd} (h : w.heap[b]? = some (.cells (ndC x) 87 (0, 0))) (ho : x.Ok) : Calls Try.prog 41 #[pt b] w fun e w' => e = .returned (.int .i64 (x.t + x.W)) ∧ Below w.heap.size w w' := by
  have c0 : w.cell? ⟨b, 0, none⟩ = some (.int .i64 x.W) := by rw [cell_of_row w _ 0 _ _ _ h]; rfl
  have c3 : w.cell? ⟨b, 3, none⟩ = some (.int .i64 x.t) := by rw [cell_of_row w _ 3 _ _ _ h]; rfl
  have wn : IntKind.i64.wrap (x.t + x.W) = x.t + x.W := by obtain ⟨h1, h2, h3, h4, _⟩ := ho; exact w64 _ (by omega) (by omega)
  clear h ho
  go_enter Try.func41, Try.ntmps41
  go_wp2_with fail
  go_quiet (fail)
  go_wp2_with fail
  go_ret
  exact ⟨rfl, below_drewN (Below.refl _ _) _⟩
/-- The kind of event that a beat is. -/
def newsK (x : Nd) (s : Int) : Int := if x.on = false then 1 else if s = 0 then 3 else if s = x.s then 0 else 2
set_option linter.unusedSimpArgs false in
set_option maxHeartbeats 4000000 in
set_option maxRecDepth 100000 in
theorem news_any {w : World} {b : Nat} {x : Nd} (h : w.heap[b]? = some (.cells (ndC x) 87 (0, 0))) (s : Int) : Calls Try.prog 38 #[pt b, .int .u8 s] w fun e w' => e = .returned (.int .u8 (newsK x s)) ∧ w' = w := by
  have c1 : w.cell? ⟨b, 1, none⟩ = some (.bool x.on) := by rw [cell_of_row w _ 1 _ _ _ h]; rfl
  have c2 : w.cell? ⟨b, 2, none⟩ = some (.int .u8 x.s) := by rw [cell_of_row w _ 2 _ _ _ h]; rfl
  clear h
  obtain ⟨K, hK⟩ : ∃ K, Hid (K = newsK x s) := ⟨_, rfl⟩
  rw [← hK.out]
  cases ho : x.on with
  | false =>
    rw [ho] at c1
    have E : Hid (K = 1) := by show _ = _; rw [hK.out, newsK, if_pos ho]
    clear hK ho
    go_enter Try.func38, Try.ntmps38
    go_wp2_with fail
    go_ret
    exact ⟨by rw [E.out]; rfl, rfl⟩
  | true =>
    rw [ho] at c1
    by_cases h0 : s = 0
    · subst h0
      have E : Hid (K = 3) := by show _ = _; rw [hK.out, newsK, if_neg (by simp [ho]), if_pos rfl]
      clear hK ho
      go_enter Try.func38, Try.ntmps38
      go_wp2_with fail
      go_ret
      exact ⟨by rw [E.out]; rfl, rfl⟩
    · by_cases h1 : s = x.s
      · have E : Hid (K = 0) := by show _ = _; rw [hK.out, newsK, if_neg (by simp [ho]), if_neg h0, if_pos h1]
        have h2 : (s == x.s) = true := by simpa using h1
        have h3 : (s != x.s) = false := by simpa using h1
        clear hK ho
        go_enter Try.func38, Try.ntmps38
        go_wp2_with fail
        go_ret
        exact ⟨by rw [E.out]; rfl, rfl⟩
      · have E : Hid (K = 2) := by show _ = _; rw [hK.out, newsK, if_neg (by simp [ho]), if_neg h0, if_neg h1]
        have h3 : (s != x.s) = true := by simpa using h1
        clear hK ho
        go_enter Try.func38, Try.ntmps38
        go_wp2_with fail
        go_ret
        exact ⟨by rw [E.out]; rfl, rfl⟩
/-- No node is watched. -/
def noneS : List Nd := List.replicate 128 (fresh 0)
theorem noneS_get {k : Nat} (hk : k < 128) : noneS[k]? = some (fresh 0) := by
  unfold noneS
  rw [List.getElem?_replicate, if_pos hk]
set_option linter.unusedSimpArgs false in
set_option maxHeartbeats 4000000 in
set_option maxRecDepth 100000 in
theorem newW_any (w : World) : Calls Try.prog 16 #[] w fun e w' => e = .returned (pt w.heap.size) ∧ IsW w' w.heap.size w.heap.size (List.replicate 128 none) noneS ∧ Below w.heap.size w w' := by
  have W0 : Hid (∀ C : Array Value, C = (wC (List.replicate 128 none)).toArray → IsW (w.alloc (.cells C 81)) w.heap.size w.heap.size (List.replicate 128 none) noneS) := fun C hC => by
    refine ⟨by rw [at11 _ _ _ rfl, hC], by simp, by simp [noneS], Nat.le_refl _, fun k hk => ?_, fun k b hk => ?_, fun j k b hj _ => ?_, fun x hx => ?_⟩
    · rw [List.getElem?_replicate] at hk
      split at hk
      · rename_i h; exact ⟨_, noneS_get h, rfl⟩
      · cases hk
    · rw [List.getElem?_replicate] at hk
      split at hk <;> cases hk
    · rw [List.getElem?_replicate] at hj
      split at hj <;> cases hj
    · rw [List.eq_of_mem_replicate hx]
      exact fresh_ok (by decide)
  have ZV : (zeroValue 81).run Try.prog w = .ok (.agg (wC (List.replicate 128 none)).toArray) w := by kernel_rfl
  go_enter Try.func16, Try.ntmps16
  go_wp2_with fail
  go_ret
  exact ⟨rfl, W0.out _ rfl, (by repeat (first | exact Below.refl _ _ | apply Below.drew | apply Below.al))⟩
/-- What State tells. -/
def stV (S : List Nd) (a : Int) : Int × Bool := match S[a.toNat]? with
  | none => (0, false)
  | some x => if ndB a = true ∧ 0 < x.W ∧ x.on = true then (x.s, true) else (0, false)
set_option linter.unusedSimpArgs false in
set_option maxHeartbeats 4000000 in
set_option maxRecDepth 100000 in
theorem state_bad (p : Nat) (a : Int) (h : ndB a = false) (w : World) : Calls Try.prog 29 #[pt p, .int .u8 a] w fun e w' => e = .returned (.tuple #[.int .u8 0, .bool false]) ∧ w' = w := by
  have IN := fun W => isNode_any a W
  rw [h] at IN
  go_enter Try.func29, Try.ntmps29
  go_wp2_with fail
  refine (IN _).mono ?_
  rintro e w1 ⟨rfl, rfl⟩
  go_wp2_with fail
  go_ret2
  exact ⟨rfl, rfl⟩
set_option linter.unusedSimpArgs false in
set_option maxHeartbeats 4000000 in
set_option maxRecDepth 100000 in
theorem nil_state (a : Int) (w : World) : Calls Try.prog 29 #[.pointer none, .int .u8 a] w fun e w' => e = .returned (.tuple #[.int .u8 0, .bool false]) ∧ w' = w := by
  go_enter Try.func29, Try.ntmps29
  go_wp2_with fail
  go_ret2
  exact ⟨rfl, rfl⟩
set_option linter.unusedSimpArgs false in
set_option maxHeartbeats 4000000 in
set_option maxRecDepth 100000 in
theorem state_none {w : World} {p k : Nat} (h : ndB (k : Int) = true) (c : w.cell? ⟨p, k, none⟩ = some (.pointer none)) : Calls Try.prog 29 #[pt p, .int .u8 (k : Int)] w fun e w' => e = .returned (.tuple #[.int .u8 0, .bool false]) ∧ w' = w := by
  have IN := fun W => isNode_any (k : Int) W
  rw [h] at IN
  have gk : (k : Int) < 128 := by have := ndB_of h; omega
  have gk0 : (0 : Int) ≤ (k : Int) := by omega
  have gn : k < 128 := by omega
  clear h
  go_enter Try.func29, Try.ntmps29
  go_wp2_with fail
  refine (IN _).mono ?_
  rintro e w1 ⟨rfl, rfl⟩
  go_wp2_with fail
  go_ret2
  exact ⟨rfl, rfl⟩
set_option linter.unusedSimpArgs false in
set_option maxHeartbeats 4000000 in
set_option maxRecDepth 100000 in
theorem state_some {w : World} {p k b : Nat} {x : Nd} (h : ndB (k : Int) = true) (c : w.cell? ⟨p, k, none⟩ = some (pt b)) (hx : w.heap[b]? = some (.cells (ndC x) 87 (0, 0))) : Calls Try.prog 29 #[pt p, .int .u8 (k : Int)] w fun e w' => e = .returned (.tuple #[.int .u8 (if x.on = true then x.s else 0), .bool x.on]) ∧ w' = w := by
  have IN := fun W => isNode_any (k : Int) W
  rw [h] at IN
  have gk : (k : Int) < 128 := by have := ndB_of h; omega
  have gk0 : (0 : Int) ≤ (k : Int) := by omega
  have gn : k < 128 := by omega
  have c1 : w.cell? ⟨b, 1, none⟩ = some (.bool x.on) := by rw [cell_of_row w _ 1 _ _ _ hx]; rfl
  have c2 : w.cell? ⟨b, 2, none⟩ = some (.int .u8 x.s) := by rw [cell_of_row w _ 2 _ _ _ hx]; rfl
  clear h hx
  obtain ⟨s, hs⟩ : ∃ s, s = x.s := ⟨_, rfl⟩
  rw [← hs] at c2 ⊢
  clear hs
  cases ho : x.on with
  | false =>
    rw [ho] at c1
    clear ho
    go_enter Try.func29, Try.ntmps29
    go_wp2_with fail
    refine (IN _).mono ?_
    rintro e w1 ⟨rfl, rfl⟩
    go_wp2_with fail
    go_ret2
    exact ⟨rfl, rfl⟩
  | true =>
    rw [ho] at c1
    clear ho
    go_enter Try.func29, Try.ntmps29
    go_wp2_with fail
    refine (IN _).mono ?_
    rintro e w1 ⟨rfl, rfl⟩
    go_wp2_with fail
    go_ret2
    exact ⟨rfl, rfl⟩
theorem state_any {w : World} {base p : Nat} {P : List (Option Nat)} {S : List Nd} (h : IsW w base p P S) (a : Int) (h0 : 0 ≤ a) : Calls Try.prog 29 #[pt p, .int .u8 a] w fun e w' => e = .returned (.tuple #[.int .u8 (stV S a).1, .bool (stV S a).2]) ∧ w' = w := by
  cases ha : ndB a with
  | false =>
    have e : stV S a = (0, false) := by unfold stV; split; rfl; rw [if_neg (by simp [ha])]
    rw [e]
    exact state_bad p a ha w
  | true =>
    obtain ⟨k, rfl⟩ : ∃ k : Nat, a = k := ⟨a.toNat, by omega⟩
    obtain ⟨x, hx, hc⟩ := h.at_ (k := k) (by have := ndB_of ha; omega)
    have hx' : S[(k : Int).toNat]? = some x := hx
    rcases hc with ⟨hW, ho⟩ | ⟨b, hW, ho, _, hb⟩
    · have e : stV S (k : Int) = (0, false) := by unfold stV; rw [hx']; exact if_neg (by omega)
      rw [e]
      exact state_none ha (cellW h.row ho)
    · have e : stV S (k : Int) = (if x.on = true then x.s else 0, x.on) := by
        unfold stV; rw [hx']
        cases hq : x.on <;> simp [ha, hW, hq]
      rw [e]
      exact state_some ha (cellW h.row ho) hb
#print axioms state_any
end Go.Proofs.Ytjdfacjfpdfafaa
