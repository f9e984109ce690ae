/-
  The walks of the program's Tick, Forget, Reset.
-/
import Derived.Test.YtnbdnmfnmnboiaaZi
namespace Go.Proofs.Ytnbdnmfnmnboiaa
open Go.RowKit

abbrev zeroF : Value := frV 0 0 0 0 0 0 0 0 0 0 false
abbrev zFb : Obj := .cells (frC 0 0 0 0 0 0 0 0 0 0 false) 40
set_option linter.unusedSimpArgs false in
set_option maxHeartbeats 4000000 in
set_option maxRecDepth 100000 in
theorem tick_none {w : World} {p m : Nat} {v : Value} {S : ES} (h : IsE w p m v S) (now : Int) (h0 : S.ws = []) : Calls Try.prog 17 #[.pointer (some ⟨p, 0, none⟩), .int .i64 now] w fun e w' => e = .returned (.tuple #[zeroF, .bool false]) ∧ Below w.heap.size w w' := by
  have DU := due_no (h.next (w' := w.alloc zFb) (by repeat (first | exact Below.refl _ _ | apply Below.drew | apply Below.al))) h0
  clear h h0
  go_enter Try.func17, Try.ntmps17
  go_wp2_with fail
  refine DU.mono ?_
  rintro e w1 ⟨rfl, rfl⟩
  go_wp2_with fail
  exact bodyPost_ret (v := .tuple #[zeroF, .bool false]) (by simp [results, Try.results17, go_sem]) rfl ⟨rfl, (by repeat (first | exact Below.refl _ _ | apply Below.drew | apply Below.al))⟩
set_option linter.unusedSimpArgs false in
set_option maxHeartbeats 4000000 in
set_option maxRecDepth 100000 in
theorem tick_time {w : World} {p m : Nat} {v : Value} {S : ES} (h : IsE w p m v S) (now : Int) (h0 : S.ws ≠ []) (h1 : tmB now = false) : Calls Try.prog 17 #[.pointer (some ⟨p, 0, none⟩), .int .i64 now] w fun e w' => e = .returned (.tuple #[zeroF, .bool false]) ∧ Below w.heap.size w w' := by
  have DU := due_yes (h.next (w' := w.alloc zFb) (by repeat (first | exact Below.refl _ _ | apply Below.drew | apply Below.al))) h0
  have IT := fun W => isTime_any now W
  rw [h1] at IT
  clear h h0 h1
  go_enter Try.func17, Try.ntmps17
  go_wp2_with fail
  refine DU.mono ?_
  rintro e w1 ⟨rfl, rfl⟩
  go_wp2_with fail
  refine (IT _).mono ?_
  rintro e w1 ⟨rfl, rfl⟩
  go_wp2_with fail
  exact bodyPost_ret (v := .tuple #[zeroF, .bool false]) (by simp [results, Try.results17, go_sem]) rfl ⟨rfl, (by repeat (first | exact Below.refl _ _ | apply Below.drew | apply Below.al))⟩
set_option linter.unusedSimpArgs false in
set_option maxHeartbeats 4000000 in
set_option maxRecDepth 100000 in
theorem tick_early {w : World} {p m : Nat} {v : Value} {S : ES} (h : IsE w p m v S) (now : Int) (h0 : S.ws ≠ []) (h1 : tmB now = true) (h2 : now < S.due) : Calls Try.prog 17 #[.pointer (some ⟨p, 0, none⟩), .int .i64 now] w fun e w' => e = .returned (.tuple #[zeroF, .bool false]) ∧ Below w.heap.size w w' := by
  have DU := due_yes (h.next (w' := w.alloc zFb) (by repeat (first | exact Below.refl _ _ | apply Below.drew | apply Below.al))) h0
  have IT := fun W => isTime_any now W
  rw [h1] at IT
  clear h h0 h1
  go_enter Try.func17, Try.ntmps17
  go_wp2_with fail
  refine DU.mono ?_
  rintro e w1 ⟨rfl, rfl⟩
  go_wp2_with fail
  refine (IT _).mono ?_
  rintro e w1 ⟨rfl, rfl⟩
  go_wp2_with fail
  exact bodyPost_ret (v := .tuple #[zeroF, .bool false]) (by simp [results, Try.results17, go_sem]) rfl ⟨rfl, (by repeat (first | exact Below.refl _ _ | apply Below.drew | apply Below.al))⟩

/-- The first of a row of frames out of memory. -/
theorem OwnAt.loadF {w : World} {g o n cap : Nat} {x : Wt} {a : Int} {rest : List Value} (h : OwnAt w 40 11 g o n cap (x.L a ++ rest)) : (loadVar 40 ⟨g, o, none⟩).run Try.prog w = .ok (.agg (x.A a)) w := by
  obtain ⟨cur, c1, c2, c3⟩ := h.cur
  have hl := h.len
  rw [List.length_append, Wt.L_len] at hl
  have hnc : n * 11 ≤ cap * 11 := Nat.mul_le_mul_right _ h.nc
  have e : (cur.toList.drop o).take 11 = x.L a := by
    have h1 : (x.L a ++ rest).take 11 = x.L a := List.take_left (l₁ := x.L a)
    rw [← h1, ← c3, List.take_take, Nat.min_eq_left (by omega)]
  have := load_part 40 11 infoF aggF w g o cur.toList 40 c1 (by rw [Array.length_toList]; omega)
  rw [e] at this
  exact this
theorem esC_set2 (S : ES) (m : Nat) (v u : Value) (ws : List Wt) (d : Int) (t : Bool) (h : S.hs.length = 16) : ((esC S m v).toArray.setIfInBounds 20 u).setIfInBounds 21 (.int .i64 d) = (esC { S with ws := ws, told := t, due := d } m u).toArray := by
  obtain ⟨A, I, st, hs, ln, ws', told, due⟩ := S
  simp only at h
  match hs, h with
  | [a0, a1, a2, a3, a4, a5, a6, a7, a8, a9, b0, b1, b2, b3, b4, b5], _ => simp [esC]
theorem flw_tail (a : Int) (l : List Wt) (h : l ≠ []) : (flw a l).drop 11 = flw a l.tail := by
  cases l with
  | nil => exact absurd rfl h
  | cons x l => rw [flw_cons]; exact List.drop_left (l₁ := x.L a)
theorem loadA (w : World) (B : Nat) (F0 : Array Value) (hs : F0.size = 11) (h : w.heap[B]? = some (.cells F0 40 (0, 0))) : (loadVar 40 ⟨B, 0, none⟩).run Try.prog w = .ok (.agg F0) w := by
  have := load_part 40 11 infoF aggF w B 0 F0.toList 40 h (by simp [hs])
  rw [List.drop_zero, List.take_of_length_le (by simp [hs])] at this
  simpa using this
/-- The first is told. -/
def ES.popped (S : ES) (now : Int) : ES := { S with ws := S.ws.tail, told := true, due := now + S.I }
theorem flw_oc (a : Int) (l : List Wt) : ∀ u ∈ flw a l, u.oneCell' = true := by
  intro u hu
  unfold flw at hu
  obtain ⟨x, _, hu⟩ := List.mem_flatMap.1 hu
  exact (Array.all_eq_true_iff_forall_mem.1 (frC_one (128 + a) 8 (x.c % 256) (x.c / 256) x.r x.i0 x.i1 x.i2 x.i3 x.i4 false)) u (by unfold Wt.L at hu; simpa using hu)
theorem popped_ok {S : ES} (h : S.Ok) (now : Int) (hn : tmB now = true) : (S.popped now).Ok := by
  have hb := tmB_of hn
  obtain ⟨a0, a1, i0, i1, s16, bit, h16, l16, w16, wok, d0, d1, dn⟩ := h
  exact ⟨a0, a1, i0, i1, s16, bit, h16, l16, by simp [ES.popped]; omega, fun x hx => wok x (List.mem_of_mem_tail hx), by show 0 ≤ now + S.I; omega, by show now + S.I ≤ _; omega, fun q => by cases q⟩
theorem IsE.pop {w w' : World} {p m g o cap : Nat} {v : Value} {S : ES} (h : IsE w p m v S) (hg : v.ownBlock = some g) (now : Int) (hn : tmB now = true) (hk : Kp [g] w w') (hO : OwnAt w' 40 11 g o (S.ws.length - 1) cap (flw S.A S.ws.tail)) :
    IsE ((w'.setCell ⟨p, 20, none⟩ (.slice (some ⟨g, o, none⟩) (S.ws.length - 1) cap)).setCell ⟨p, 21, none⟩ (.int .i64 (now + S.I))) p m (.slice (some ⟨g, o, none⟩) (S.ws.length - 1) cap) (S.popped now) := by
  have hgp : g ≠ p := fun e => h.pv.1 (by rw [hg, e])
  have hgm : g ≠ m := fun e => h.pv.2 (by rw [hg, e])
  have hp : w'.heap[p]? = some (.cells (esC S m v).toArray 66 (0, 0)) := hk.at (by simp; exact fun e => hgp e.symm) h.head
  have hm : IsM w' m (msk S.st) := h.map.kp hk (by simp; exact fun e => hgm e.symm)
  have hmp : m ≠ p := fun e => h.pm e.symm
  refine ⟨?_, ?_, ?_, popped_ok h.ok now hn⟩
  · unfold ES.popped
    rw [← esC_set2 S m v _ _ _ _ h.ok.h16]
    exact heap_setCell_same _ _ _ _ _ _ (heap_setCell_same _ _ _ _ _ _ hp)
  · exact hm.same ((Below.heap_setCell _ _ _ _ hmp).trans (Below.heap_setCell _ _ _ _ hmp))
  · have e : (S.popped now).ws.length = S.ws.length - 1 := by simp [ES.popped]
    rw [e]
    exact Own.at_of (hO.same ((Below.heap_setCell _ _ _ _ hgp).trans (Below.heap_setCell _ _ _ _ hgp)))
set_option linter.unusedSimpArgs false in
set_option maxHeartbeats 4000000 in
set_option maxRecDepth 100000 in
theorem tick_yes {w : World} {p m : Nat} {v : Value} {S : ES} (h : IsE w p m v S) (now : Int) (x : Wt) (l : List Wt) (h0 : S.ws = x :: l) (h1 : tmB now = true) (h2 : ¬ now < S.due) : Calls Try.prog 17 #[.pointer (some ⟨p, 0, none⟩), .int .i64 now] w fun e w' => e = .returned (.tuple #[.agg (x.A S.A), .bool true]) ∧ EPost w w' p m v (S.popped now) := by
  obtain ⟨y, hy⟩ : ∃ y, y = w.alloc zFb := ⟨_, rfl⟩
  have K0 : Below w.heap.size w y := by rw [hy]; exact (by repeat (first | exact Below.refl _ _ | apply Below.drew | apply Below.al))
  have HY := h.next K0
  have DU := due_yes HY (by rw [h0]; simp)
  have IT := fun W => isTime_any now W
  rw [h1] at IT
  have f4 : y.heap[w.heap.size]? = some (.cells (frC 0 0 0 0 0 0 0 0 0 0 false) 40 (0, 0)) := by rw [hy]; exact at11 _ _ _ rfl
  obtain ⟨g, o, cap, rfl, hO⟩ := HY.row.pos (by rw [h0]; simp)
  have hl : S.ws.length = l.length + 1 := by rw [h0]; rfl
  have LD : (loadVar 40 ⟨g, o, none⟩).run Try.prog y = .ok (.agg (x.A S.A)) y := OwnAt.loadF (rest := flw S.A l) (by have := hO; rw [h0, flw_cons] at this; rwa [← h0] at this)
  have c20 := HY.c20
  have lp := HY.lt
  have lg := hO.lt
  obtain ⟨N, hN⟩ : ∃ N, Hid (N = S.ws.length) := ⟨_, rfl⟩
  have N0 : (0 : Int) < (N : Int) := by rw [hN.out, hl]; omega
  rw [← hN.out] at c20
  obtain ⟨F0, hF0⟩ : ∃ F0, Hid (F0 = x.A S.A) := ⟨_, rfl⟩
  rw [← hF0.out] at LD ⊢
  have HO : Hid (OwnAt y 40 11 g o N cap (flw S.A S.ws)) := by rw [hN.out]; exact hO
  have HE : Hid (IsE y p m (.slice (some ⟨g, o, none⟩) S.ws.length cap) S) := HY
  have HW : Hid (S.ws = x :: l ∧ tmB now = true) := ⟨h0, h1⟩
  have KY : Hid (Below w.heap.size w y) := K0
  have F1 : Hid (F0.all (·.oneCell') = true ∧ F0 = x.A S.A) := ⟨by rw [hF0.out]; exact frC_one _ _ _ _ _ _ _ _ _ _ _, hF0.out⟩
  have LW : Hid (p < w.heap.size ∧ g < w.heap.size ∧ m < w.heap.size) := ⟨h.lt, h.row.lt g rfl, h.map.lt⟩
  clear h HY hO h0 h1 hl K0
  go_enter Try.func17, Try.ntmps17
  go_wp2_with fail
  rw [← hy]
  clear hy
  refine DU.mono ?_
  rintro e w8 ⟨rfl, rfl⟩
  clear DU
  go_wp2_with fail
  refine (IT _).mono ?_
  rintro e w9 ⟨rfl, rfl⟩
  clear IT
  have FS : F0.size = 11 := by rw [F1.out.2]; rfl
  go_wp2_with (first
    | (refine wpList_load_by rfl 40 _ rfl ⟨g, o, none⟩ (.agg F0) rfl LD ?_)
    | (refine wpList_store_row rfl 40 _ _ rfl w9.heap.size F0 rfl rfl 40 _ (at11 w9 zFb w9.heap.size rfl) (by rw [FS]; exact infoF) (by rw [FS]; rfl) F1.out.1 ?_
       have f8 := setRow_heap _ _ _ F0 _ _ (at11 w9 zFb w9.heap.size rfl)
       have f4z := sh11 (B := w9.heap.size) (C := F0) (by have := lt_of_heap f4; omega) (ext11 (o := zFb) f4)
       have BZ : Below w9.heap.size w9 ((w9.alloc zFb).setRow w9.heap.size F0) := below_setRow (by repeat (first | exact Below.refl _ _ | apply Below.drew | apply Below.al)) (Nat.le_refl _) _
       have HZ := HE.out.next BZ
       have OZ := HO.out.same (w' := (w9.alloc zFb).setRow w9.heap.size F0) (BZ.block g lg)
       generalize hz : ((w9.alloc zFb).setRow w9.heap.size F0 : World) = z at f8 f4z BZ HZ OZ ⊢
       clear hz c20 LD lg f4
       have c20 := HZ.c20
       rw [← hN.out] at c20
       have lz := HZ.lt))
  have D := delete_any OZ (by omega) (flw_oc _ _)
  refine D.mono ?_
  rintro e w3 ⟨rfl, hD, k3⟩
  have KZ : Hid (Below w.heap.size w z) := Below.trans KY.out (BZ.mono KY.out.size)
  have gz := lt_of_heap f8
  have fz8 : Hid (w3.heap[w9.heap.size]? = some (.cells F0 40 (0, 0))) := k3.at (by have := LW.out; have := KY.out.size; simp; omega) f8
  have fz4 : Hid (w3.heap[w.heap.size]? = some (.cells (frC 0 0 0 0 0 0 0 0 0 0 false) 40 (0, 0))) := k3.at (by have := LW.out; simp; omega) f4z
  have hne : Hid (g ≠ p) := fun e => HZ.pv.1 (by rw [e]; rfl)
  have hp3 : w3.heap[p]? = some (.cells (esC S m (.slice (some ⟨g, o, none⟩) S.ws.length cap)).toArray 66 (0, 0)) := k3.at (by simp; exact fun e => hne.out e.symm) HZ.head
  have q20 : w3.cell? ⟨p, 20, none⟩ = some (.slice (some ⟨g, o, none⟩) S.ws.length cap) := by rw [cell_of_row w3 p 20 _ _ _ hp3]; simpa using (esC_19 S m _ HE.out.ok.h16).2.1
  have z20 := froz11 w3 p 20 _ _ hp3
  have fp3 := fun v => heap_setCell_same w3 p 20 _ _ v hp3
  have POP : Hid (IsE ((w3.setCell ⟨p, 20, none⟩ (.slice (some ⟨g, o, none⟩) (N - 1) cap)).setCell ⟨p, 21, none⟩ (.int .i64 (now + S.I))) p m (.slice (some ⟨g, o, none⟩) (N - 1) cap) (S.popped now)) := by
    rw [hN.out]
    exact IsE.pop (g := g) HZ rfl now HW.out.2 k3 (by rw [← hN.out, ← flw_tail _ _ (by rw [HW.out.1]; simp)]; exact hD)
  have KK : Hid (Kp (fpE p m (.slice (some ⟨g, o, none⟩) S.ws.length cap)) w w3) := (Kp.of KZ.out).trans (k3.more (by simp [Value.ownBlock]))
  have q1 : w3.cell? ⟨p, 1, none⟩ = some (.int .i64 S.I) := by rw [cell_of_row w3 p 1 _ _ _ hp3]; rfl
  have q21 : w3.cell? ⟨p, 21, none⟩ = some (.int .i64 S.due) := by rw [cell_of_row w3 p 21 _ _ _ hp3]; simpa using (esC_19 S m _ HE.out.ok.h16).2.2
  have z21 := froz11 w3 p 21 _ _ hp3
  have l3 := lt_of_heap hp3
  have wI : IntKind.i64.wrap (now + S.I) = now + S.I := w64 _ (by have := tmB_of HW.out.2; have := HE.out.ok.i0; omega) (by have := tmB_of HW.out.2; have := HE.out.ok.i1; omega)
  have b8 : ∀ u1 u2, ((w3.setCell ⟨p, 20, none⟩ u1).setCell ⟨p, 21, none⟩ u2).heap[w9.heap.size]? = some (.cells F0 40 (0, 0)) := fun u1 u2 => (Below.heap_setCell _ _ _ _ (by show w9.heap.size ≠ p; omega)).trans ((Below.heap_setCell _ _ _ _ (by show w9.heap.size ≠ p; omega)).trans fz8.out)
  have b4 : ∀ u1 u2, ((w3.setCell ⟨p, 20, none⟩ u1).setCell ⟨p, 21, none⟩ u2).heap[w.heap.size]? = some (.cells (frC 0 0 0 0 0 0 0 0 0 0 false) 40 (0, 0)) := fun u1 u2 => (Below.heap_setCell _ _ _ _ (by have := LW.out; show w.heap.size ≠ p; omega)).trans ((Below.heap_setCell _ _ _ _ (by have := LW.out; show w.heap.size ≠ p; omega)).trans fz4.out)
  clear hD k3 gz hp3 fp3 D f8 f4z BZ HZ OZ c20 lz
  go_wp2_with (first
    | (refine wpList_load_by rfl 40 _ rfl ⟨w9.heap.size, 0, none⟩ (.agg F0) rfl ?_ ?_
       · exact loadA _ _ _ FS (b8 _ _))
    | (refine wpList_store_row rfl 40 _ _ rfl w.heap.size F0 rfl rfl 40 (frC 0 0 0 0 0 0 0 0 0 0 false) ?_ ?_ ?_ F1.out.1 ?_
       · exact b4 _ _
       · rw [FS]; exact infoF
       · rw [FS]; rfl))
  have hc := fun j => cell_of_row _ w.heap.size j _ _ _ (setRow_heap _ _ _ F0 _ _ (b4 (.slice (some ⟨g, o, none⟩) (N - 1) cap) (.int .i64 (now + S.I))))
  have hE := hF0.out
  subst hE
  refine bodyPost_ret (v := .tuple #[.agg (x.A S.A), .bool true]) ?_ rfl ⟨rfl, _, POP.out.kp ((Kp.refl [w.heap.size] _).row _ _ (.inl (by simp))) ?_, fun q hq => .inl hq, ?_⟩
  · simp [results, Try.results17, go_sem, hc]
  · intro k hk hm
    have h1 := LW.out
    simp only [List.mem_cons, List.not_mem_nil, or_false] at hm
    subst hm
    simp only [List.mem_cons, Option.mem_toList, Value.ownBlock, Option.some.injEq, Option.map_some] at hk
    omega
  · exact ((KK.out.set ⟨p, 20, none⟩ _ (.inl (by simp))).set ⟨p, 21, none⟩ _ (.inl (by simp))).row w.heap.size _ (.inr (Nat.le_refl _))
/-- What Tick tells, and leaves. -/
def ES.may (S : ES) (now : Int) : Bool := !S.ws.isEmpty && tmB now && decide (S.due ≤ now)
/-- The cells that Tick tells. -/
def ES.said (S : ES) (now : Int) : Array Value := if S.may now = true then (match S.ws with | x :: _ => x.A S.A | [] => frC 0 0 0 0 0 0 0 0 0 0 false) else frC 0 0 0 0 0 0 0 0 0 0 false
def ES.tick (S : ES) (now : Int) : ES := if S.may now = true then S.popped now else S
theorem tick_any {w : World} {p m : Nat} {v : Value} {S : ES} (h : IsE w p m v S) (now : Int) : Calls Try.prog 17 #[.pointer (some ⟨p, 0, none⟩), .int .i64 now] w fun e w' => e = .returned (.tuple #[.agg (S.said now), .bool (S.may now)]) ∧ EPost w w' p m v (S.tick now) := by
  have no : S.may now = false → Calls Try.prog 17 #[.pointer (some ⟨p, 0, none⟩), .int .i64 now] w (fun e w' => e = .returned (.tuple #[zeroF, .bool false]) ∧ Below w.heap.size w w') → Calls Try.prog 17 #[.pointer (some ⟨p, 0, none⟩), .int .i64 now] w fun e w' => e = .returned (.tuple #[.agg (S.said now), .bool (S.may now)]) ∧ EPost w w' p m v (S.tick now) := by
    intro hm hc
    refine hc.mono ?_
    rintro e w' ⟨rfl, hb⟩
    have h1 : ¬ S.may now = true := by rw [hm]; decide
    unfold ES.said ES.tick
    rw [if_neg h1, if_neg h1, hm]
    exact ⟨rfl, EPost.same h hb⟩
  cases hw : S.ws with
  | nil => exact no (by simp [ES.may, hw]) (tick_none h now hw)
  | cons x l =>
    have hne : S.ws ≠ [] := by rw [hw]; simp
    cases ht : tmB now with
    | false => exact no (by simp [ES.may, ht]) (tick_time h now hne ht)
    | true =>
      by_cases hd : now < S.due
      · exact no (by simp [ES.may, hd]) (tick_early h now hne ht hd)
      · have hm : S.may now = true := by simp [ES.may, hw, ht]; omega
        unfold ES.said ES.tick
        rw [if_pos hm, if_pos hm, hm, hw]
        exact tick_yes h now x l hw ht hd
#print axioms tick_any
end Go.Proofs.Ytnbdnmfnmnboiaa
