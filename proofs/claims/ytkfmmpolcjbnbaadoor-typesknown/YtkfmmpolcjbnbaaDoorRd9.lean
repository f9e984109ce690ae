/-
  The walk of readMoment: days and milliseconds.
-/
import Derived.Test.YtkfmmpolcjbnbaaDoorRd8
import Derived.Test.YtkfmmpolcjbnbaaDoorRev
namespace Go.Proofs.YtkfmmpolcjbnbaaDoor
open Pl Go.RowKit

theorem Row.cellsAt {w : World} {b off len : Nat} {zs : List Int} (hr : Row w (some ⟨b, off, none⟩) len zs) (hp : 0 < len) : ∀ j u, (zs.map (Value.int .u8))[j]? = some u → w.cell? ((⟨b, off, none⟩ : Addr).add j) = some u := by
  intro j u hu
  obtain ⟨b', off', e, hc⟩ := hr.at_ hp
  cases e
  rw [List.getElem?_map] at hu
  by_cases hj : j < zs.length
  · rw [List.getElem?_eq_getElem hj] at hu
    have e := hc j (by rw [← hr.size]; exact hj)
    rw [show (⟨b, off, none⟩ : Addr).add j = ⟨b, off + j, none⟩ from by simp [Addr.add], e]
    simpa [List.getD_eq_getElem?_getD, hj] using hu
  · rw [List.getElem?_eq_none (by omega)] at hu
    simp at hu

/-- Bytes put behind a slice that is full: a new one. -/
theorem append_full_run (ty : TypeId) (g n : Nat) (a : Option Addr) (m cap : Nat) (xs ys : List Int) (w : World) (hx : Row w (some ⟨g, 0, none⟩) n xs) (hr : Row w a m ys) (hn : 0 < n) (hp : 0 < m) (h : n + m ≤ 1000000) :
    ∃ cap' w', (Builtin.append_ #[22, 22] ty #[.slice (some ⟨g, 0, none⟩) n n, .slice a m cap]).run Tryd.prog w = .ok (.slice (some ⟨w.heap.size, 0, none⟩) (n + m) cap') w' ∧ n + m ≤ cap' ∧ cap' ≤ maxLen ∧ Own w' w.heap.size (n + m) (xs ++ ys) ∧ Below w.heap.size w w' := by
  obtain ⟨i, hi, hz0, hz1, hz2⟩ := info_parts info8
  obtain ⟨b, off, rfl, hc⟩ := hr.at_ hp
  have hs : Src Tryd.prog i.size 22 (.slice (some ⟨b, off, none⟩) m cap) m (ys.map (Value.int .u8)) w :=
    Src.ofSlice w Tryd.underlying22 _ m cap _ (by rw [List.length_map, hr.size, hz1, Nat.mul_one]) (hr.cellsAt hp) (fun u hu => by obtain ⟨_, _, rfl⟩ := List.mem_map.1 hu; rfl)
  have hrun := run_append_grow_src (P := Tryd.prog) w 22 22 ty 5 i (.int .u8 0) Tryd.underlying22 hi hz0 (some ⟨g, 0, none⟩) n n (xs.map (Value.int .u8)) (run_firstCells_some w.drew i.size n _ n n _ (by rw [List.length_map, hx.size, hz1, Nat.mul_one]) (fun j u hu => hx.cellsAt hn j u hu)) _ m _ hs (by omega) (by omega)
    (growslice_fits (by omega) (by rw [hz2]; omega))
  refine ⟨_, _, hrun, grownCap_ge w (n + m) n _, grownCap_le_maxLen w (n + m) n _ (by unfold maxLen; omega), ⟨by rw [List.length_append, hx.size, hr.size], fun k hk => (List.mem_append.1 hk).elim (hx.oct k) (hr.oct k), fun j hj => ⟨?_, World.frozen?_alloc_new w.drew _ _ j⟩⟩, Below.al (Below.drew (Below.refl _ _)) _⟩
  have e1 : (w.drew.alloc (.cells ((xs.map (Value.int .u8) ++ ys.map (Value.int .u8)).toArray ++ Builtin.zeroCells (Value.int .u8 0).cells (grownCap w (n + m) n 5 - (n + m))) 5)).cell? ⟨w.heap.size, j, none⟩ = _ := World.cell?_alloc_new w.drew _ _ j
  have hl : (xs ++ ys).length = n + m := by rw [List.length_append, hx.size, hr.size]
  rw [e1, Array.getElem?_append_left (by rw [← List.map_append]; simp; rw [hx.size, hr.size]; exact hj), List.getElem?_toArray, ← List.map_append, List.getElem?_map]
  rw [List.getElem?_eq_getElem (by omega)]
  simp only [Option.map_some, List.getD_eq_getElem?_getD]
  rw [List.getElem?_eq_getElem (by omega)]
  rfl
theorem wpList_append_full {w : World} {ops : Array Oper} {rest : List Oper} {o : Oper} {c : Act} {Q : Exit → Act → World → Prop} (hgd : o.guard = none) (s x : Operand)
    (ho : o.op = .call { callee := .builtin .append, args := #[s, x], argTypes := #[22, 22] }) (g n : Nat) (hs : c.eval s = .slice (some ⟨g, 0, none⟩) n n)
    (a : Option Addr) (m cap : Nat) (xs ys : List Int) (hx : c.eval x = .slice a m cap) (hrx : Row w (some ⟨g, 0, none⟩) n xs) (hr : Row w a m ys) (hn : 0 < n) (hp : 0 < m) (hl : n + m ≤ 1000000)
    (h : ∀ cap' w', n + m ≤ cap' → cap' ≤ maxLen → Own w' w.heap.size (n + m) (xs ++ ys) → Below w.heap.size w w' → wpList Tryd.prog ops Q rest (c.put o.dst (.slice (some ⟨w.heap.size, 0, none⟩) (n + m) cap')) w') : wpList Tryd.prog ops Q (o :: rest) c w := by
  refine wpList_plain hgd fun K hK => ?_
  obtain ⟨cap', w', hrun, h1, h2, h3, h4⟩ := append_full_run o.type g n a m cap xs ys w hrx hr hn hp hl
  unfold Oper.wp
  simp [execOp, ho, resolve, invoke, builtin, hs, hx, hrun, Result.andThen]
  exact hK _ _ (h cap' w' h1 h2 h3 h4)

/-- The bytes of a moment. -/
def momV (l : List UInt8) : Option (List Int) :=
  (cutU 58 l).bind fun p => (decV 86399999 p.2).bind fun m => (decV 65535 p.1).map fun d => bytesL (m : Int) 4 ++ bytesL (d : Int) 2

set_option maxHeartbeats 4000000 in
set_option maxRecDepth 100000 in
theorem momentRd_any (l : List UInt8) (w : World) (hl : l.length ≤ 1000000) :
    Calls Tryd.prog 37 #[.string (str l)] w (ReadsTo w (momV l)) := by
  have hc := fun w => cutC_any 58 l w hl
  unfold cutT at hc
  obtain ⟨sl, HSL⟩ : ∃ s, Hid (str l = s) := ⟨_, rfl⟩
  rw [HSL.out] at hc ⊢
  have MV : Hid (momV l = _) := rfl
  cases hq : cutU 58 l with
  | none =>
    rw [hq] at hc
    have HC : Hid (∀ w : World, Calls Tryd.prog 63 #[.string sl, .string ⟨#[58]⟩] w fun e w' => e = .returned (.tuple #[.string sl, .string ⟨#[]⟩, .bool false]) ∧ Below w.heap.size w w') := hc
    rw [show momV l = none from by unfold momV; rw [hq]; rfl]
    clear hc hq MV
    go_enter Tryd.func37, Tryd.ntmps37
    go_wp2_with fail
    refine (HC.out _).mono ?_
    rintro e w1 ⟨rfl, hb⟩
    go_wp2_with fail
    refine (must_false _).mono ?_
    rintro e w1 ⟨rfl, rfl⟩
    go_wp2_with fail
    exact ⟨rfl, rfl, hb⟩
  | some p =>
    obtain ⟨d, ms⟩ := p
    rw [hq] at hc
    have he := cutU_eq 58 l _ hq
    have hlen : l.length = d.length + 1 + ms.length := by rw [he]; simp; omega
    have h1 := fun w => decimal_any ms 86399999 w (by decide) (by omega)
    have h2 := fun w => decimal_any d 65535 w (by decide) (by omega)
    have HM : Hid (momV l = (decV 86399999 ms).bind fun m => (decV 65535 d).map fun d => bytesL (m : Int) 4 ++ bytesL (d : Int) 2) := by show _ = _; unfold momV; rw [hq]; rfl
    rw [HM.out]
    dsimp only at hc
    clear MV HM he hlen hq
    generalize str d = sd at *
    generalize str ms = sm at *
    have HC : Hid (∀ w : World, Calls Tryd.prog 63 #[.string sl, .string ⟨#[58]⟩] w fun e w' => e = .returned (.tuple #[.string sd, .string sm, .bool true]) ∧ Below w.heap.size w w') := hc
    clear hc
    generalize decV 86399999 ms = v1 at *
    generalize decV 65535 d = v2 at *
    cases v1 with
    | none =>
      have H1 : Hid (∀ w : World, Calls Tryd.prog 58 #[.string sm, .int .u64 86399999] w fun e w' => e = .panicked bad ∧ w' = w) := h1
      clear h1 h2
      show Calls _ _ _ _ (ReadsTo w none)
      go_enter Tryd.func37, Tryd.ntmps37
      go_wp2_with fail
      refine (HC.out _).mono ?_
      rintro e w1 ⟨rfl, hb⟩
      go_wp2_with fail
      refine (must_true _).mono ?_
      rintro e w1 ⟨rfl, rfl⟩
      go_wp2_with fail
      refine (H1.out _).mono ?_
      rintro e w1 ⟨rfl, rfl⟩
      go_wp2_with fail
      exact ⟨rfl, rfl, hb⟩
    | some m =>
      have H1 : Hid (∀ w : World, Calls Tryd.prog 58 #[.string sm, .int .u64 86399999] w fun e w' => e = .returned (.int .u64 (m : Int)) ∧ w' = w) := h1
      cases v2 with
      | none =>
        have H2 : Hid (∀ w : World, Calls Tryd.prog 58 #[.string sd, .int .u64 65535] w fun e w' => e = .panicked bad ∧ w' = w) := h2
        clear h1 h2
        show Calls _ _ _ _ (ReadsTo w none)
        go_enter Tryd.func37, Tryd.ntmps37
        go_wp2_with fail
        refine (HC.out _).mono ?_
        rintro e w1 ⟨rfl, hb⟩
        go_wp2_with fail
        refine (must_true _).mono ?_
        rintro e w1 ⟨rfl, rfl⟩
        go_wp2_with fail
        refine (H1.out _).mono ?_
        rintro e w1 ⟨rfl, rfl⟩
        go_wp2_with fail
        refine (bytesOf_any (m : Int) 4 _ (by omega) (by decide)).mono ?_
        rintro e w2 ⟨v, rfl, hf⟩
        obtain ⟨hr, rfl, hz, hb2⟩ := hf
        go_wp2_with fail
        refine (H2.out _).mono ?_
        rintro e w2 ⟨rfl, rfl⟩
        go_wp2_with fail
        exact ⟨rfl, rfl, Below.andThen hb hb2⟩
      | some dd =>
        have H2 : Hid (∀ w : World, Calls Tryd.prog 58 #[.string sd, .int .u64 65535] w fun e w' => e = .returned (.int .u64 (dd : Int)) ∧ w' = w) := h2
        clear h1 h2
        show Calls _ _ _ _ (ReadsTo w (some (bytesL (m : Int) 4 ++ bytesL (dd : Int) 2)))
        go_enter Tryd.func37, Tryd.ntmps37
        go_wp2_with fail
        refine (HC.out _).mono ?_
        rintro e w1 ⟨rfl, hb⟩
        go_wp2_with fail
        refine (must_true _).mono ?_
        rintro e w1 ⟨rfl, rfl⟩
        go_wp2_with fail
        refine (H1.out _).mono ?_
        rintro e w1 ⟨rfl, rfl⟩
        go_wp2_with fail
        refine (bytesOf_any (m : Int) 4 _ (by omega) (by decide)).mono ?_
        rintro e w2 ⟨v, rfl, hf⟩
        obtain ⟨hr, rfl, hz, hb2⟩ := hf
        go_wp2_with fail
        refine (H2.out _).mono ?_
        rintro e w2 ⟨rfl, rfl⟩
        go_wp2_with fail
        refine (bytesOf_any (dd : Int) 2 _ (by omega) (by decide)).mono ?_
        rintro e w3 ⟨v, rfl, hf⟩
        obtain ⟨hr3, rfl, hz3, hb3⟩ := hf
        have hr' := hr.next hb3
        go_wp2_with (at_builtin; refine wpList_append_full rfl _ _ rfl _ 4 rfl _ 2 2 _ _ rfl hr' hr3 (by decide) (by decide) (by decide) ?_)
        intro cap' w4 k1 k2 own hb4
        go_wp2_with fail
        go_ret
        exact ⟨⟨_, _, _, rfl, ⟨own.row, k1, k2, fun _ => ⟨_, rfl, Nat.le_trans (Nat.le_trans hb.size hb2.size) hb3.size, fun i hi => (own.cell i hi).2⟩⟩⟩, Below.andThen (Below.andThen (Below.andThen hb hb2) hb3) hb4⟩
#print axioms momentRd_any
end Go.Proofs.YtkfmmpolcjbnbaaDoor
