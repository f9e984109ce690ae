/-
  The walk of a watch's Due.
-/
import Derived.Test.YtjdfacjfpdfafaaHg
namespace Go.Proofs.Ytjdfacjfpdfafaa
open Go.RowKit

/-- The first of two times, if any. -/
def nxtT (s : Option Int) (t : Int) : Option Int := match s with
  | none => some t
  | some a => if t < a then some t else some a
/-- The first time at which one of the first k would be gone. -/
def dueK (S : List Nd) : Nat → Option Int
  | 0 => none
  | k + 1 => match S[k]? with
    | none => dueK S k
    | some x => if 0 < x.W ∧ x.on = true then nxtT (dueK S k) (x.t + x.W) else dueK S k
abbrev dueV (r : Option Int) : Value := .tuple #[.int .i64 (r.getD 0), .bool r.isSome]
/-- The boxes of Due's closure. -/
def DBox (w : World) (f g : Nat) (s : Option Int) : Prop := w.heap[f]? = some (.cells #[.bool s.isSome] 4 (0, 0)) ∧ w.heap[g]? = some (.cells #[.int .i64 (s.getD 0)] 2 (0, 0))
set_option linter.unusedSimpArgs false in
set_option maxHeartbeats 4000000 in
set_option maxRecDepth 100000 in
theorem due1_any {b f g : Nat} (k : Int) {x : Nd} {s : Option Int} {w : World} (h : w.heap[b]? = some (.cells (ndC x) 87 (0, 0))) (ho : x.Ok) (hb : DBox w f g s) (hfg : f ≠ g) :
    Calls Try.prog 44 #[.int .u8 k, pt b, .pointer (some ⟨f, 0, none⟩), .pointer (some ⟨g, 0, none⟩)] w fun e w' => e = .returned (.tuple #[]) ∧ DBox w' f g (nxtT s (x.t + x.W)) ∧ Kp [f, g] w w' := by
  have DU : Hid (Calls Try.prog 41 #[pt b] w fun e w' => e = .returned (.int .i64 (x.t + x.W)) ∧ Below w.heap.size w w') := late_any h ho
  obtain ⟨t, ht⟩ : ∃ t, t = x.t + x.W := ⟨_, rfl⟩
  rw [← ht] at DU ⊢
  have HB : Hid (DBox w f g s) := hb
  clear h ho ht hb
  have keep : ∀ w1 : World, Below w.heap.size w w1 → Hid (DBox w1 f g s ∧ Kp [f, g] w w1) := fun w1 hb1 => ⟨⟨blk11 hb1 HB.out.1, blk11 hb1 HB.out.2⟩, Kp.of hb1⟩
  have put : ∀ w1 : World, Below w.heap.size w w1 → Hid (DBox ((w1.setCell ⟨g, 0, none⟩ (.int .i64 t)).setCell ⟨f, 0, none⟩ (.bool true)) f g (some t) ∧ Kp [f, g] w ((w1.setCell ⟨g, 0, none⟩ (.int .i64 t)).setCell ⟨f, 0, none⟩ (.bool true))) := fun w1 hb1 => by
    have e1 := blk11 hb1 HB.out.1
    have e2 := blk11 hb1 HB.out.2
    refine ⟨⟨?_, ?_⟩, ((Kp.of hb1).set _ _ (.inl (by simp))).set _ _ (.inl (by simp))⟩
    · rw [heap_setCell_same _ _ _ _ _ _ ((Below.heap_setCell _ _ _ _ (fun e => hfg (by simpa using e))).trans e1)]
      rfl
    · rw [Below.heap_setCell _ _ _ _ (fun e => hfg (by simpa using e.symm)), heap_setCell_same _ _ _ _ _ _ e2]
      rfl
  obtain ⟨R, hR⟩ : ∃ R, Hid (R = nxtT s t) := ⟨_, rfl⟩
  rw [← hR.out]
  go_enter Try.func44, Try.ntmps44
  go_wp2_with fail
  refine DU.out.mono ?_
  rintro e w1 ⟨rfl, hb1⟩
  have KE := keep w1 hb1
  have PU := put w1 hb1
  have cf : w1.cell? ⟨f, 0, none⟩ = some (.bool s.isSome) := by rw [cell_of_row _ _ 0 _ _ _ KE.out.1.1]; rfl
  have cg : w1.cell? ⟨g, 0, none⟩ = some (.int .i64 (s.getD 0)) := by rw [cell_of_row _ _ 0 _ _ _ KE.out.1.2]; rfl
  have ff : w1.frozen? ⟨f, 0, none⟩ = false := froz11 _ _ _ _ _ KE.out.1.1
  have fg : w1.frozen? ⟨g, 0, none⟩ = false := froz11 _ _ _ _ _ KE.out.1.2
  clear hb1 DU keep put
  cases s with
  | none =>
    simp only [Option.isSome, Option.getD] at cf cg
    have N : Hid (R = some t) := hR.out
    clear hR
    go_wp2_with fail
    go_end0
    exact ⟨rfl, by rw [N.out]; exact PU.out⟩
  | some a =>
    simp only [Option.isSome, Option.getD] at cf cg
    by_cases ht : t < a
    · have N : Hid (R = some t) := by show _ = _; rw [hR.out]; exact if_pos ht
      clear hR
      go_wp2_with fail
      go_end0
      exact ⟨rfl, by rw [N.out]; exact PU.out⟩
    · have N : Hid (R = some a) := by show _ = _; rw [hR.out]; exact if_neg ht
      clear hR
      go_wp2_with fail
      go_end0
      exact ⟨rfl, by rw [N.out]; exact KE.out⟩
set_option linter.unusedSimpArgs false in
set_option maxHeartbeats 4000000 in
set_option maxRecDepth 100000 in
theorem wdue_any {w : World} {base p : Nat} {P : List (Option Nat)} {S : List Nd} (h : IsW w base p P S) : Calls Try.prog 28 #[pt p] w fun e w' => e = .returned (dueV (dueK S 128)) ∧ Below w.heap.size w w' := by
  have HC : Hid (IsW w base p P S) := h
  obtain ⟨f, hf⟩ : ∃ f, Hid (f = w.heap.size + 1) := ⟨_, rfl⟩
  obtain ⟨g, hg⟩ : ∃ g, Hid (g = w.heap.size) := ⟨_, rfl⟩
  obtain ⟨Inv, hInv⟩ : ∃ Inv : Nat → World → Prop, Hid (Inv = fun k W => IsW W base p P S ∧ DBox W f g (dueK S k) ∧ Below w.heap.size w W) := ⟨_, rfl⟩
  have EA : Hid (∀ W, Inv 0 W → Calls Try.prog 39 #[pt p, .func (.func 44) #[] #[.pointer (some ⟨f, 0, none⟩), .pointer (some ⟨g, 0, none⟩)]] W fun e w' => e = .returned (.tuple #[]) ∧ Inv 128 w') := fun W hW => by
    refine each_due p P HC.out.pl _ _ Inv (fun k V hk hV => ?_) W (by rw [hInv.out] at hW; exact hW.1.row) hW
    rw [hInv.out] at hV
    obtain ⟨x, hx, hc⟩ := hV.1.at_ hk
    have step : dueK S (k + 1) = if 0 < x.W ∧ x.on = true then nxtT (dueK S k) (x.t + x.W) else dueK S k := by simp only [dueK, hx]
    refine ⟨fun hn => ?_, fun b hb => ?_⟩
    · rw [hInv.out]
      show IsW V base p P S ∧ DBox V f g (dueK S (k + 1)) ∧ Below w.heap.size w V
      rw [step, if_neg]
      · exact hV
      · rintro ⟨h1, _⟩
        rcases hc with ⟨h2, _⟩ | ⟨b, _, h2, _⟩
        · omega
        · rw [h2] at hn; cases hn
    · rcases hc with ⟨_, h2⟩ | ⟨b', h1, h2, _, h4⟩
      · rw [h2] at hb; cases hb
      rw [h2] at hb
      cases hb
      refine ⟨x.on, by rw [cell_of_row _ _ 1 _ _ _ h4]; rfl, fun hon => ?_, fun hon => ?_⟩
      · refine (due1_any (k : Int) h4 (hV.1.ok x (List.mem_of_getElem? hx)) hV.2.1 (by have := hf.out; have := hg.out; omega)).mono ?_
        rintro e w' ⟨he, hb, hk9⟩
        refine ⟨he, ?_⟩
        rw [hInv.out]
        show IsW w' base p P S ∧ DBox w' f g (dueK S (k + 1)) ∧ Below w.heap.size w w'
        rw [step, if_pos ⟨h1, hon⟩]
        refine ⟨hV.1.same fun j C T fz hj ht => hk9.at (fun hm => ?_) hj, hb, Kp.below hV.2.2 hk9 hV.2.2.size (by have := hf.out; have := hg.out; simp; omega)⟩
        simp only [List.mem_cons, List.not_mem_nil, or_false] at hm
        rcases hm with rfl | rfl
        · rw [hV.2.1.1] at hj; cases hj; rcases ht with ht | ht <;> exact absurd ht (by decide)
        · rw [hV.2.1.2] at hj; cases hj; rcases ht with ht | ht <;> exact absurd ht (by decide)
      · rw [hInv.out]
        show IsW V base p P S ∧ DBox V f g (dueK S (k + 1)) ∧ Below w.heap.size w V
        rw [step, if_neg (by simp [hon])]
        exact hV
  obtain ⟨R, hR⟩ : ∃ R, Hid (R = dueK S 128) := ⟨_, rfl⟩
  rw [← hR.out]
  have IN : Hid (∀ W, Inv 128 W → DBox W f g R ∧ Below w.heap.size w W) := fun W hW => by
    rw [hInv.out] at hW
    rw [hR.out]
    exact ⟨hW.2.1, hW.2.2⟩
  have I0 : Hid (∀ W, Below w.heap.size w W → DBox W f g none → Inv 0 W) := fun W hb hd => by
    rw [hInv.out]
    exact ⟨HC.out.next hb, hd, hb⟩
  clear hInv h
  go_enter Try.func28, Try.ntmps28
  go_wp2_with fail
  rw [← hf.out, ← hg.out]
  have D0 : Hid (DBox ((w.alloc (.cells #[.int .i64 0] 2)).alloc (.cells #[.bool false] 4)) f g none) := by
    rw [hf.out, hg.out]
    exact ⟨at11 _ _ _ (by simp), ext11 (at11 _ _ _ rfl)⟩
  refine (EA.out _ (I0.out _ (by repeat (first | exact Below.refl _ _ | apply Below.drew | apply Below.al)) D0.out)).mono ?_
  rintro e w2 ⟨rfl, hi⟩
  have F : Hid (DBox w2 f g R ∧ Below w.heap.size w w2) := IN.out w2 hi
  have cf : w2.cell? ⟨f, 0, none⟩ = some (.bool R.isSome) := by rw [cell_of_row _ _ 0 _ _ _ F.out.1.1]; rfl
  have cg : w2.cell? ⟨g, 0, none⟩ = some (.int .i64 (R.getD 0)) := by rw [cell_of_row _ _ 0 _ _ _ F.out.1.2]; rfl
  have E2 : Hid (∀ n, Below w.heap.size w (w2.drewN n)) := fun n => below_drewN F.out.2 n
  clear hi EA I0 IN D0 F
  cases R with
  | none =>
    simp only [Option.isSome, Option.getD] at cf cg
    go_wp2_with fail
    go_quiet (fail)
    go_wp2_with fail
    go_ret2
    exact ⟨rfl, ⟨(E2.out 0).os, (E2.out 0).tape, (E2.out 0).output, (E2.out 0).size, (E2.out 0).block⟩⟩
  | some t =>
    simp only [Option.isSome, Option.getD] at cf cg
    go_wp2_with fail
    go_quiet (fail)
    go_wp2_with fail
    go_ret2
    exact ⟨rfl, ⟨(E2.out 0).os, (E2.out 0).tape, (E2.out 0).output, (E2.out 0).size, (E2.out 0).block⟩⟩
set_option linter.unusedSimpArgs false in
set_option maxHeartbeats 4000000 in
set_option maxRecDepth 100000 in
theorem nil_wdue (w : World) : Calls Try.prog 28 #[.pointer none] w fun e w' => e = .returned (dueV none) ∧ Below w.heap.size w w' := by
  have EA := fun q1 q2 W => nil_dueEach q1 q2 W
  go_enter Try.func28, Try.ntmps28
  go_wp2_with fail
  refine (EA _ _ _).mono ?_
  rintro e w1 ⟨rfl, rfl⟩
  go_wp2_with fail
  go_quiet (fail)
  go_wp2_with fail
  go_ret2
  exact ⟨rfl, below_drewN (by repeat (first | exact Below.refl _ _ | apply Below.drew | apply Below.al)) _⟩
#print axioms wdue_any
#print axioms nil_wdue
end Go.Proofs.Ytjdfacjfpdfafaa
