/-
  The walk of a watch's Tick.
-/
import Derived.Test.YtjdfacjfpdfafaaHi
namespace Go.Proofs.Ytjdfacjfpdfafaa
open Go.RowKit

set_option linter.unusedSimpArgs false in
set_option maxHeartbeats 4000000 in
set_option maxRecDepth 100000 in
theorem wtick_bad (p : Nat) (now : Int) (h : tmB now = false) (w : World) : Calls Try.prog 24 #[pt p, .int .i64 now] w fun e w' => e = .returned (.slice none 0 0) ∧ Below w.heap.size w w' := by
  have I1 := fun W => isTime_any now W
  rw [h] at I1
  go_enter Try.func24, Try.ntmps24
  go_wp2_with fail
  refine (I1 _).mono ?_
  rintro e w1 ⟨rfl, rfl⟩
  go_wp2_with fail
  go_ret
  exact ⟨rfl, (by repeat (first | exact Below.refl _ _ | apply Below.drew | apply Below.al))⟩
set_option linter.unusedSimpArgs false in
set_option maxHeartbeats 4000000 in
set_option maxRecDepth 100000 in
theorem nil_wtick (now : Int) (w : World) : Calls Try.prog 24 #[.pointer none, .int .i64 now] w fun e w' => e = .returned (.slice none 0 0) ∧ Below w.heap.size w w' := by
  have I1 := fun W => isTime_any now W
  have EA := fun q1 q2 W => nil_tickEach q1 q2 W
  cases h : tmB now with
  | false =>
    rw [h] at I1
    go_enter Try.func24, Try.ntmps24
    go_wp2_with fail
    refine (I1 _).mono ?_
    rintro e w1 ⟨rfl, rfl⟩
    go_wp2_with fail
    go_ret
    exact ⟨rfl, (by repeat (first | exact Below.refl _ _ | apply Below.drew | apply Below.al))⟩
  | true =>
    rw [h] at I1
    go_enter Try.func24, Try.ntmps24
    go_wp2_with fail
    refine (I1 _).mono ?_
    rintro e w1 ⟨rfl, rfl⟩
    go_wp2_with fail
    refine (EA _ _ _).mono ?_
    rintro e w1 ⟨rfl, rfl⟩
    go_wp2_with fail
    go_ret
    exact ⟨rfl, (by repeat (first | exact Below.refl _ _ | apply Below.drew | apply Below.al))⟩
/-- What Tick leaves. -/
structure TkPost (w w' : World) (base p : Nat) (P : List (Option Nat)) (S : List Nd) (now : Int) (v : Value) : Prop where
  ev : IsEv w' v (evK now S 128)
  own : ∀ g, v.ownBlock = some g → w.heap.size ≤ g
  st : IsW w' base p P (S.map (·.tick now))
  k : Kt base w w'
set_option linter.unusedSimpArgs false in
set_option maxHeartbeats 4000000 in
set_option maxRecDepth 100000 in
theorem wtick_ok {w : World} {base p : Nat} {P : List (Option Nat)} {S : List Nd} (h : IsW w base p P S) (now : Int) (hn : tmB now = true) : Calls Try.prog 24 #[pt p, .int .i64 now] w fun e w' => ∃ v, e = .returned v ∧ TkPost w w' base p P S now v := by
  have TM : ∀ W, Calls Try.prog 31 #[.int .i64 now] W fun e w' => e = .returned (.bool true) ∧ w' = W := fun W => by rw [← hn]; exact isTime_any now W
  have HC : Hid (IsW w base p P S) := h
  obtain ⟨nb, hnb⟩ : ∃ nb, Hid (nb = w.heap.size) := ⟨_, rfl⟩
  obtain ⟨lb, hlb⟩ : ∃ lb, Hid (lb = w.heap.size + 1) := ⟨_, rfl⟩
  obtain ⟨Inv, hInv⟩ : ∃ Inv : Nat → World → Prop, Hid (Inv = fun k W => TkI w W base p nb lb P S now k) := ⟨_, rfl⟩
  have EA : Hid (∀ W, Inv 0 W → Calls Try.prog 39 #[pt p, .func (.func 40) #[] #[.pointer (some ⟨nb, 0, none⟩), .pointer (some ⟨lb, 0, none⟩)]] W fun e w' => e = .returned (.tuple #[]) ∧ Inv 128 w') := fun W hW => by
    refine each_tick p P HC.out.pl _ _ Inv (fun k V hk hV => ?_) W (by rw [hInv.out] at hW; exact hW.w.row) hW
    rw [hInv.out] at hV
    have hV : TkI w V base p nb lb P S now k := hV
    obtain ⟨x, hx⟩ : ∃ x, S[k]? = some x := ⟨_, List.getElem?_eq_getElem (by have := HC.out.sl; omega)⟩
    obtain ⟨x', hx', hc⟩ := hV.w.at_ hk
    rw [tickK_at hx] at hx'
    cases hx'
    have no : goneB x now = false → TkI w V base p nb lb P S now (k + 1) := fun hg => ⟨by rw [tickK_no hx hg]; exact hV.w, by rw [evK_no hx hg]; exact hV.t, hV.k⟩
    refine ⟨fun hq => ?_, fun b hb => ?_⟩
    · rw [hInv.out]
      refine no ?_
      rcases hc with ⟨h2, _⟩ | ⟨b, _, h2, _⟩
      · simp [goneB, h2]
      · rw [h2] at hq; cases hq
    · rcases hc with ⟨_, h2⟩ | ⟨b', h1, h2, _, h4⟩
      · rw [h2] at hb; cases hb
      rw [h2] at hb
      cases hb
      refine ⟨x.on, by rw [cell_of_row _ _ 1 _ _ _ h4]; rfl, fun hon => ?_, fun hon => ?_⟩
      · rw [hInv.out]
        show Calls Try.prog 40 _ V fun e w' => e = .returned (.tuple #[]) ∧ TkI w w' base p nb lb P S now (k + 1)
        cases hg : goneB x now with
        | false =>
          have hlt : now < x.t + x.W := by simp [goneB, h1, hon] at hg; exact hg
          refine (tick1_no (k : Int) h4 (hV.w.ok x (List.mem_of_getElem? (tickK_at hx))) hV.t.1 hlt).mono ?_
          rintro e w' ⟨he, hb⟩
          exact ⟨he, (no hg).next hb⟩
        | true => exact tick1_yes hV hx h2 hg (by have := hlb.out; omega) hk hV.k.size
      · rw [hInv.out]
        exact no (by simp [goneB, hon])
  have IN : Hid (∀ W, Inv 128 W → ∃ v, W.heap[lb]? = some (.cells #[v] 62 (0, 0)) ∧ TkPost w W base p P S now v) := fun W hW => by
    rw [hInv.out] at hW
    have hW : TkI w W base p nb lb P S now 128 := hW
    obtain ⟨_, v, h2, h3, h4⟩ := hW.t
    exact ⟨v, h2, h3, h4, by rw [← tickK_all now HC.out.sl]; exact hW.w, hW.k⟩
  have I0 : Hid (∀ W, Below w.heap.size w W → TBox W w.heap.size nb lb now [] → Inv 0 W) := fun W hb hd => by
    rw [hInv.out]
    exact ⟨by simpa [tickK] using HC.out.next hb, hd, Kt.of hb⟩
  clear hInv h hn
  go_enter Try.func24, Try.ntmps24
  go_wp2_with fail
  refine (TM _).mono ?_
  rintro e w1 ⟨rfl, rfl⟩
  go_wp2_with fail
  rw [← hlb.out, ← hnb.out]
  have D0 : Hid (TBox ((w.alloc (.cells #[.int .i64 now] 2)).alloc (.cells #[.slice none 0 0] 62)) w.heap.size nb lb now []) := by
    rw [hlb.out, hnb.out]
    exact ⟨ext11 (at11 _ _ _ rfl), .slice none 0 0, at11 _ _ _ (by simp), own_nil _ _ _, fun g hg => by cases hg⟩
  refine (EA.out _ (I0.out _ (by repeat (first | exact Below.refl _ _ | apply Below.drew | apply Below.al)) D0.out)).mono ?_
  rintro e w2 ⟨rfl, hi⟩
  obtain ⟨v, q1, q2⟩ := IN.out w2 hi
  have cl : w2.cell? ⟨lb, 0, none⟩ = some v := by rw [cell_of_row _ _ 0 _ _ _ q1]; rfl
  have F : Hid (TkPost w w2 base p P S now v) := q2
  clear hi EA I0 IN D0 q1 q2
  go_wp2_with fail
  go_ret
  exact ⟨v, rfl, F.out⟩
#print axioms wtick_ok
end Go.Proofs.Ytjdfacjfpdfafaa
