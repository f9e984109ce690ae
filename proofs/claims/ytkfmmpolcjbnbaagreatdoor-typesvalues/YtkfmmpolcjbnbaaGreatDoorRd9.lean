/-
  The walk of readMoment: days and milliseconds.
  The walk of readOctets: pairs of digits as bytes.
  The readers of numbers: readValue at the types of numbers, and Value.
-/
import Derived.Test.YtkfmmpolcjbnbaaGreatDoorRd8
import Derived.Test.YtkfmmpolcjbnbaaGreatDoorLent
import Derived.Test.YtkfmmpolcjbnbaaGreatDoorRd4
import Derived.Test.YtkfmmpolcjbnbaaGreatDoorTogS
import Derived.Test.YtkfmmpolcjbnbaaGreatDoorRd2
namespace Go.Proofs.YtkfmmpolcjbnbaaGreatDoor
open Pl Go.RowKit

theorem Row.cellsAt {w : World} {b off len : Nat} {zs : List Int} (hr : Row w (some ⟨b, off, none⟩) len zs) (hp : 0 < len) : ∀ j u, (zs.map (Value.int .u8))[j]? = some u → w.cell? ((⟨b, off, none⟩ : Addr).add j) = some u := by
  intro j u hu
  obtain ⟨b', off', e, hc⟩ := hr.at_ hp
  cases e
  rw [List.getElem?_map] at hu
  by_cases hj : j < zs.length
  · rw [List.getElem?_eq_getElem hj] at hu
    have e := hc j (by rw [← hr.size]; exact hj)
    rw [show (⟨b, off, none⟩ : Addr).add j = ⟨b, off + j, none⟩ from by simp [Addr.add], e]
    simpa [List.getD_eq_getElem?_getD, hj] using hu
  · rw [List.getElem?_eq_none (by omega)] at hu
    simp at hu

/-- Bytes put behind a slice that is full: a new one. -/
theorem append_full_run (ty : TypeId) (g n : Nat) (a : Option Addr) (m cap : Nat) (xs ys : List Int) (w : World) (hx : Row w (some ⟨g, 0, none⟩) n xs) (hr : Row w a m ys) (hn : 0 < n) (hp : 0 < m) (h : n + m ≤ 1000000) :
    ∃ cap' w', (Builtin.append_ #[23, 23] ty #[.slice (some ⟨g, 0, none⟩) n n, .slice a m cap]).run Tryz.prog w = .ok (.slice (some ⟨w.heap.size, 0, none⟩) (n + m) cap') w' ∧ n + m ≤ cap' ∧ cap' ≤ maxLen ∧ Own w' w.heap.size (n + m) (xs ++ ys) ∧ Below w.heap.size w w' := by
  obtain ⟨i, hi, hz0, hz1, hz2⟩ := info_parts info8
  obtain ⟨b, off, rfl, hc⟩ := hr.at_ hp
  have hs : Src Tryz.prog i.size 23 (.slice (some ⟨b, off, none⟩) m cap) m (ys.map (Value.int .u8)) w :=
    Src.ofSlice w Tryz.underlying23 _ m cap _ (by rw [List.length_map, hr.size, hz1, Nat.mul_one]) (hr.cellsAt hp) (fun u hu => by obtain ⟨_, _, rfl⟩ := List.mem_map.1 hu; rfl)
  have hrun := run_append_grow_src (P := Tryz.prog) w 23 23 ty 5 i (.int .u8 0) Tryz.underlying23 hi hz0 (some ⟨g, 0, none⟩) n n (xs.map (Value.int .u8)) (run_firstCells_some w.drew i.size n _ n n _ (by rw [List.length_map, hx.size, hz1, Nat.mul_one]) (fun j u hu => hx.cellsAt hn j u hu)) _ m _ hs (by omega) (by omega)
    (growslice_fits (by omega) (by rw [hz2]; omega))
  refine ⟨_, _, hrun, grownCap_ge w (n + m) n _, grownCap_le_maxLen w (n + m) n _ (by unfold maxLen; omega), ⟨by rw [List.length_append, hx.size, hr.size], fun k hk => (List.mem_append.1 hk).elim (hx.oct k) (hr.oct k), fun j hj => ⟨?_, World.frozen?_alloc_new w.drew _ _ j⟩⟩, Below.al (Below.drew (Below.refl _ _)) _⟩
  have e1 : (w.drew.alloc (.cells ((xs.map (Value.int .u8) ++ ys.map (Value.int .u8)).toArray ++ Builtin.zeroCells (Value.int .u8 0).cells (grownCap w (n + m) n 5 - (n + m))) 5)).cell? ⟨w.heap.size, j, none⟩ = _ := World.cell?_alloc_new w.drew _ _ j
  have hl : (xs ++ ys).length = n + m := by rw [List.length_append, hx.size, hr.size]
  rw [e1, Array.getElem?_append_left (by rw [← List.map_append]; simp; rw [hx.size, hr.size]; exact hj), List.getElem?_toArray, ← List.map_append, List.getElem?_map]
  rw [List.getElem?_eq_getElem (by omega)]
  simp only [Option.map_some, List.getD_eq_getElem?_getD]
  rw [List.getElem?_eq_getElem (by omega)]
  rfl
theorem wpList_append_full {w : World} {ops : Array Oper} {rest : List Oper} {o : Oper} {c : Act} {Q : Exit → Act → World → Prop} (hgd : o.guard = none) (s x : Operand)
    (ho : o.op = .call { callee := .builtin .append, args := #[s, x], argTypes := #[23, 23] }) (g n : Nat) (hs : c.eval s = .slice (some ⟨g, 0, none⟩) n n)
    (a : Option Addr) (m cap : Nat) (xs ys : List Int) (hx : c.eval x = .slice a m cap) (hrx : Row w (some ⟨g, 0, none⟩) n xs) (hr : Row w a m ys) (hn : 0 < n) (hp : 0 < m) (hl : n + m ≤ 1000000)
    (h : ∀ cap' w', n + m ≤ cap' → cap' ≤ maxLen → Own w' w.heap.size (n + m) (xs ++ ys) → Below w.heap.size w w' → wpList Tryz.prog ops Q rest (c.put o.dst (.slice (some ⟨w.heap.size, 0, none⟩) (n + m) cap')) w') : wpList Tryz.prog ops Q (o :: rest) c w := by
  refine wpList_plain hgd fun K hK => ?_
  obtain ⟨cap', w', hrun, h1, h2, h3, h4⟩ := append_full_run o.type g n a m cap xs ys w hrx hr hn hp hl
  unfold Oper.wp
  simp [execOp, ho, resolve, invoke, builtin, hs, hx, hrun, Result.andThen]
  exact hK _ _ (h cap' w' h1 h2 h3 h4)

/-- The bytes of a moment. -/
def momV (l : List UInt8) : Option (List Int) :=
  (cutU 58 l).bind fun p => (decV 86399999 p.2).bind fun m => (decV 65535 p.1).map fun d => bytesL (m : Int) 4 ++ bytesL (d : Int) 2

set_option maxHeartbeats 4000000 in
set_option maxRecDepth 100000 in
theorem momentRd_any (l : List UInt8) (w : World) (hl : l.length ≤ 1000000) :
    Calls Tryz.prog 30 #[.string (str l)] w (ReadsTo w (momV l)) := by
  have hc := fun w => cutC_any 58 l w hl
  unfold cutT at hc
  obtain ⟨sl, HSL⟩ : ∃ s, Hid (str l = s) := ⟨_, rfl⟩
  rw [HSL.out] at hc ⊢
  have MV : Hid (momV l = _) := rfl
  cases hq : cutU 58 l with
  | none =>
    rw [hq] at hc
    have HC : Hid (∀ w : World, Calls Tryz.prog 60 #[.string sl, .string ⟨#[58]⟩] w fun e w' => e = .returned (.tuple #[.string sl, .string ⟨#[]⟩, .bool false]) ∧ Below w.heap.size w w') := hc
    rw [show momV l = none from by unfold momV; rw [hq]; rfl]
    clear hc hq MV
    go_enter Tryz.func30, Tryz.ntmps30
    go_wp2_with fail
    refine (HC.out _).mono ?_
    rintro e w1 ⟨rfl, hb⟩
    go_wp2_with fail
    refine (must_false _).mono ?_
    rintro e w1 ⟨rfl, rfl⟩
    go_wp2_with fail
    exact ⟨rfl, rfl, hb⟩
  | some p =>
    obtain ⟨d, ms⟩ := p
    rw [hq] at hc
    have he := cutU_eq 58 l _ hq
    have hlen : l.length = d.length + 1 + ms.length := by rw [he]; simp; omega
    have h1 := fun w => decimal_any ms 86399999 w (by decide) (by omega)
    have h2 := fun w => decimal_any d 65535 w (by decide) (by omega)
    have HM : Hid (momV l = (decV 86399999 ms).bind fun m => (decV 65535 d).map fun d => bytesL (m : Int) 4 ++ bytesL (d : Int) 2) := by show _ = _; unfold momV; rw [hq]; rfl
    rw [HM.out]
    dsimp only at hc
    clear MV HM he hlen hq
    generalize str d = sd at *
    generalize str ms = sm at *
    have HC : Hid (∀ w : World, Calls Tryz.prog 60 #[.string sl, .string ⟨#[58]⟩] w fun e w' => e = .returned (.tuple #[.string sd, .string sm, .bool true]) ∧ Below w.heap.size w w') := hc
    clear hc
    generalize decV 86399999 ms = v1 at *
    generalize decV 65535 d = v2 at *
    cases v1 with
    | none =>
      have H1 : Hid (∀ w : World, Calls Tryz.prog 55 #[.string sm, .int .u64 86399999] w fun e w' => e = .panicked bad ∧ w' = w) := h1
      clear h1 h2
      show Calls _ _ _ _ (ReadsTo w none)
      go_enter Tryz.func30, Tryz.ntmps30
      go_wp2_with fail
      refine (HC.out _).mono ?_
      rintro e w1 ⟨rfl, hb⟩
      go_wp2_with fail
      refine (must_true _).mono ?_
      rintro e w1 ⟨rfl, rfl⟩
      go_wp2_with fail
      refine (H1.out _).mono ?_
      rintro e w1 ⟨rfl, rfl⟩
      go_wp2_with fail
      exact ⟨rfl, rfl, hb⟩
    | some m =>
      have H1 : Hid (∀ w : World, Calls Tryz.prog 55 #[.string sm, .int .u64 86399999] w fun e w' => e = .returned (.int .u64 (m : Int)) ∧ w' = w) := h1
      cases v2 with
      | none =>
        have H2 : Hid (∀ w : World, Calls Tryz.prog 55 #[.string sd, .int .u64 65535] w fun e w' => e = .panicked bad ∧ w' = w) := h2
        clear h1 h2
        show Calls _ _ _ _ (ReadsTo w none)
        go_enter Tryz.func30, Tryz.ntmps30
        go_wp2_with fail
        refine (HC.out _).mono ?_
        rintro e w1 ⟨rfl, hb⟩
        go_wp2_with fail
        refine (must_true _).mono ?_
        rintro e w1 ⟨rfl, rfl⟩
        go_wp2_with fail
        refine (H1.out _).mono ?_
        rintro e w1 ⟨rfl, rfl⟩
        go_wp2_with fail
        refine (bytesOf_any (m : Int) 4 _ (by omega) (by decide)).mono ?_
        rintro e w2 ⟨v, rfl, hf⟩
        obtain ⟨hr, rfl, hz, hb2⟩ := hf
        go_wp2_with fail
        refine (H2.out _).mono ?_
        rintro e w2 ⟨rfl, rfl⟩
        go_wp2_with fail
        exact ⟨rfl, rfl, Below.andThen hb hb2⟩
      | some dd =>
        have H2 : Hid (∀ w : World, Calls Tryz.prog 55 #[.string sd, .int .u64 65535] w fun e w' => e = .returned (.int .u64 (dd : Int)) ∧ w' = w) := h2
        clear h1 h2
        show Calls _ _ _ _ (ReadsTo w (some (bytesL (m : Int) 4 ++ bytesL (dd : Int) 2)))
        go_enter Tryz.func30, Tryz.ntmps30
        go_wp2_with fail
        refine (HC.out _).mono ?_
        rintro e w1 ⟨rfl, hb⟩
        go_wp2_with fail
        refine (must_true _).mono ?_
        rintro e w1 ⟨rfl, rfl⟩
        go_wp2_with fail
        refine (H1.out _).mono ?_
        rintro e w1 ⟨rfl, rfl⟩
        go_wp2_with fail
        refine (bytesOf_any (m : Int) 4 _ (by omega) (by decide)).mono ?_
        rintro e w2 ⟨v, rfl, hf⟩
        obtain ⟨hr, rfl, hz, hb2⟩ := hf
        go_wp2_with fail
        refine (H2.out _).mono ?_
        rintro e w2 ⟨rfl, rfl⟩
        go_wp2_with fail
        refine (bytesOf_any (dd : Int) 2 _ (by omega) (by decide)).mono ?_
        rintro e w3 ⟨v, rfl, hf⟩
        obtain ⟨hr3, rfl, hz3, hb3⟩ := hf
        have hr' := hr.next hb3
        go_wp2_with (at_builtin; refine wpList_append_full rfl _ _ rfl _ 4 rfl _ 2 2 _ _ rfl hr' hr3 (by decide) (by decide) (by decide) ?_)
        intro cap' w4 k1 k2 own hb4
        go_wp2_with fail
        go_ret
        exact ⟨⟨_, _, _, rfl, ⟨own.row, k1, k2, fun _ => ⟨_, rfl, Nat.le_trans (Nat.le_trans hb.size hb2.size) hb3.size, fun i hi => (own.cell i hi).2⟩⟩⟩, Below.andThen (Below.andThen (Below.andThen hb hb2) hb3) hb4⟩
#print axioms momentRd_any
end Go.Proofs.YtkfmmpolcjbnbaaGreatDoor
namespace Go.Proofs.YtkfmmpolcjbnbaaGreatDoor
open Pl Go.RowKit

/-- The byte of a pair of digits. -/
def pr (l : List UInt8) (i : Nat) : Option Nat := hexF true 0 ((l.drop (2 * i)).take 2)
/-- The bytes that digits tell, pair by pair. -/
def octV (l : List UInt8) : Option (List Int) :=
  if (l.length % 2 = 0 ∧ l.length ≤ 8192) ∧ (∀ i, i < l.length / 2 → (pr l i).isSome = true) then some ((List.range (l.length / 2)).map fun i => (((pr l i).getD 0 : Nat) : Int)) else none

theorem pr_lt (l : List UInt8) (i : Nat) : (pr l i).getD 0 < 256 := by
  cases h : pr l i with
  | none => simp
  | some n => exact hexF2_lt true _ n (by simp; omega) h

set_option maxHeartbeats 4000000 in
set_option maxRecDepth 100000 in
theorem octetsRd_any (l : List UInt8) (w : World) (hl : l.length ≤ 1000000) :
    Calls Tryz.prog 32 #[.string (str l)] w (ReadsTo w (octV l)) := by
  have SL : Hid (∀ k, k < l.length / 2 → ∀ w : World, (Instr.slice 9 (.string (str l)) (some (.int .i64 (2 * (k : Int)))) (some (.int .i64 (2 * (k : Int) + 2))) none).run Tryz.prog w = .ok (.string (str ((l.drop (2 * k)).take 2))) w) := fun k hk w => by
    have := slice_str l (2 * k) (2 * k + 2) (by omega) (by omega) w
    rw [show 2 * k + 2 - 2 * k = 2 by omega] at this
    exact this
  have HH : Hid (∀ (k : Nat) (w : World), Calls Tryz.prog 56 #[.string (str ((l.drop (2 * k)).take 2)), .bool true] w fun e w' => e = endU (pr l k) ∧ w' = w) := fun k w => hexRd_any true _ w (by simp; omega)
  obtain ⟨s, HS, htl, hsz, hix⟩ := str_facts l
  rw [HS.out] at SL ⊢
  clear hix htl HS
  by_cases a0 : l.length % 2 = 0
  rotate_left
  · have g0 : ((l.length : Int) % 2 == 0) = false := by simp; omega
    have g0' : ((l.length : Int).tmod 2 == 0) = false := by rw [Int.tmod_eq_emod_of_nonneg (by omega)]; exact g0
    rw [show octV l = none from by unfold octV; rw [if_neg (by intro h; exact a0 h.1.1)]]
    clear SL HH a0
    go_enter Tryz.func32, Tryz.ntmps32
    go_wp2_with fail
    refine (must_false _).mono ?_
    rintro e w ⟨rfl, rfl⟩
    go_wp2_with fail
    exact ⟨rfl, rfl, Below.refl _ _⟩
  obtain ⟨n, hn⟩ : ∃ n, l.length = 2 * n := ⟨l.length / 2, by omega⟩
  have hn2 : l.length / 2 = n := by omega
  rw [hn2] at SL
  by_cases a1 : l.length ≤ 8192
  rotate_left
  · have g0 : ((l.length : Int) % 2) = 0 := by omega
    have g0' : ((l.length : Int).tmod 2) = 0 := by rw [Int.tmod_eq_emod_of_nonneg (by omega)]; exact g0
    have g1 : ¬ (l.length : Int) ≤ 8192 := by omega
    rw [show octV l = none from by unfold octV; rw [if_neg (by intro h; exact a1 h.1.2)]]
    clear SL HH a0 a1 hn hn2
    go_enter Tryz.func32, Tryz.ntmps32
    go_wp2_with fail
    first
      | refine (must_false _).mono ?_
      | (rw [show decide (l.length ≤ 8192) = false from by simp; omega]; refine (must_false _).mono ?_)
    rintro e w ⟨rfl, rfl⟩
    go_wp2_with fail
    exact ⟨rfl, rfl, Below.refl _ _⟩
  have g0 : ((l.length : Int) % 2) = 0 := by omega
  have g0' : ((l.length : Int).tmod 2) = 0 := by rw [Int.tmod_eq_emod_of_nonneg (by omega)]; exact g0
  have g1 : (l.length : Int) ≤ 8192 := by omega
  have g3 : (l.length : Int) / 2 = (n : Int) := by omega
  have g2 : (l.length : Int).tdiv 2 = (n : Int) := by rw [Int.tdiv_eq_ediv_of_nonneg (by omega)]; exact g3
  have hmk := make_run n (by omega) w
  have GOOD : Hid ((∀ i, i < n → (pr l i).isSome = true) → octV l = some ((List.range n).map fun i => (((pr l i).getD 0 : Nat) : Int))) := fun h => by
    unfold octV
    rw [hn2, if_pos ⟨⟨a0, a1⟩, h⟩]
  have BADK : Hid (∀ k, k < n → pr l k = none → octV l = none) := fun k hk h => by
    unfold octV
    rw [hn2, if_neg (by intro h'; have := h'.2 k hk; rw [h] at this; simp at this)]
  have hn8 : n ≤ 4096 := by omega
  clear a0 a1 hn hn2
  generalize octV l = R at *
  go_enter Tryz.func32, Tryz.ntmps32
  go_wp2_with fail
  refine (must_true _).mono ?_
  rintro e w ⟨rfl, rfl⟩
  go_wp2_with fail
  clear hmk
  go_loopw [21] (fun i wr => ∃ k : Nat, k ≤ n ∧ i = .int .i64 (k : Int) ∧ (∀ j, j < k → (pr l j).isSome = true) ∧ Below w.heap.size w wr ∧ (∀ j, j < k → wr.cell? ⟨w.heap.size, j, none⟩ = some (.int .u8 (((pr l j).getD 0 : Nat) : Int))) ∧ (∀ j, j < n → (∃ v, wr.cell? ⟨w.heap.size, j, none⟩ = some v) ∧ wr.frozen? ⟨w.heap.size, j, none⟩ = false))
    (fun i _ => n - (intOf i).toNat)
  case atStart =>
    exact ⟨0, Nat.zero_le _, rfl, fun j hj => absurd hj (Nat.not_lt_zero _), Below.al (Below.refl _ _) _, fun j hj => absurd hj (Nat.not_lt_zero _), fun j hj => ⟨⟨_, by rw [World.cell?_alloc_new, made_at n j hj]⟩, by simp [go_sem]⟩⟩
  case round =>
    obtain ⟨k, hk, rfl, hsome, hb, hc, hs⟩ := hrel
    by_cases hlt : k < n
    · obtain ⟨⟨v, hv⟩, hz⟩ := hs k hlt
      have HC : Hid (∀ j, j < k → wr.cell? ⟨w.heap.size, j, none⟩ = some (.int .u8 (((pr l j).getD 0 : Nat) : Int))) := hc
      have HZ : Hid (∀ j, j < n → (∃ v, wr.cell? ⟨w.heap.size, j, none⟩ = some v) ∧ wr.frozen? ⟨w.heap.size, j, none⟩ = false) := hs
      have HO : Hid (∀ j, j < k → (pr l j).isSome = true) := hsome
      clear hc hs hsome
      have hlt' : (k : Int) < (n : Int) := by omega
      have sl := SL.out k hlt
      have hh := HH.out k
      have PL := pr_lt l k
      cases hp : pr l k with
      | none =>
        have HE : Hid (R = none) := BADK.out k hlt hp
        rw [hp] at hh
        have HD : Hid (∀ w : World, Calls Tryz.prog 56 #[.string (str ((l.drop (2 * k)).take 2)), .bool true] w fun e w' => e = .panicked bad ∧ w' = w) := hh
        rw [HE.out]
        clear hp PL hh HE
        generalize str ((l.drop (2 * k)).take 2) = q at *
        go_wp2_with fail
        refine (HD.out _).mono ?_
        rintro e w ⟨rfl, rfl⟩
        go_wp2_with fail
        first | exact ⟨rfl, rfl, hb⟩ | exact ⟨rfl, ⟨rfl, hb⟩⟩
      | some x =>
        rw [hp] at hh PL
        have HD : Hid (∀ w : World, Calls Tryz.prog 56 #[.string (str ((l.drop (2 * k)).take 2)), .bool true] w fun e w' => e = .returned (.int .u64 (x : Int)) ∧ w' = w) := hh
        have hx : x < 256 := PL
        have wx : (x : Int) % 256 = (x : Int) := by omega
        have wx' : IntKind.u8.wrap (x : Int) = (x : Int) := by rw [IntKind.wrap_u8]; omega
        have HP : Hid (pr l k = some x) := hp
        clear hp PL hh
        generalize str ((l.drop (2 * k)).take 2) = q at *
        go_wp2_with fail
        refine (HD.out _).mono ?_
        rintro e wr ⟨rfl, rfl⟩
        go_wp2_with fail
        have st := fill_step (x := fun j => (((pr l j).getD 0 : Nat) : Int)) hb (Nat.le_refl _) hlt HC.out HZ.out
        rw [HP.out] at st
        exact ⟨⟨k + 1, by omega, by go_num, fun j hj => by rcases Nat.lt_succ_iff_lt_or_eq.1 hj with h | rfl; exact HO.out j h; rw [HP.out]; rfl, st.1, st.2.1, st.2.2⟩, by simp [intOf]; omega⟩
    · obtain rfl : k = n := by omega
      have HE : Hid (R = some ((List.range k).map fun i => (((pr l i).getD 0 : Nat) : Int))) := GOOD.out hsome
      have HC : Hid (∀ j, j < k → wr.cell? ⟨w.heap.size, j, none⟩ = some (.int .u8 (((pr l j).getD 0 : Nat) : Int))) := hc
      have HZ : Hid (∀ j, j < k → (∃ v, wr.cell? ⟨w.heap.size, j, none⟩ = some v) ∧ wr.frozen? ⟨w.heap.size, j, none⟩ = false) := hs
      clear hc hs hsome
      go_wp2_with fail
      go_ret
      rw [HE.out]
      refine ⟨⟨_, _, _, rfl, ⟨⟨by simp, fun m hm => ?_, fun hp => ⟨_, 0, rfl, fun i hi => ?_⟩⟩, Nat.le_refl _, by unfold maxLen; omega, fun _ => ⟨_, rfl, Nat.le_refl _, fun i hi => (HZ.out i hi).2⟩⟩⟩, hb⟩
      · obtain ⟨i, _, rfl⟩ := List.mem_map.1 hm
        have := pr_lt l i
        omega
      · rw [Nat.zero_add, HC.out i hi]
        simp [List.getD_eq_getElem?_getD, hi]
#print axioms octetsRd_any
end Go.Proofs.YtkfmmpolcjbnbaaGreatDoor
namespace Go.Proofs.YtkfmmpolcjbnbaaGreatDoor
open Pl Go.RowKit

theorem int_sizes (t : Int) (h : kindN t = 2 ∨ kindN t = 3) : sizeN t = 1 ∨ sizeN t = 2 ∨ sizeN t = 3 ∨ sizeN t = 4 ∨ sizeN t = 8 := by
  rcases type_cases t with rfl | rfl | rfl | rfl | rfl | rfl | rfl | rfl | rfl | rfl | rfl | rfl | rfl | rfl | rfl | rfl | rfl | rfl | ⟨h1, _⟩
  all_goals first | decide | (exfalso; revert h; decide) | omega

set_option maxHeartbeats 2000000 in
set_option maxRecDepth 100000 in
theorem readInt_2_1 (l : List UInt8) (W : World) (hl : l.length ≤ 1000000) :
    Calls Tryz.prog 12 #[.int .u8 2, .int .i64 1, .string (str l)] W (ReadsTo W ((sgnV 128 127 l).map fun n => bytesL (n : Int) 1)) := by
  have hd := fun W : World => signedRd_any l 128 127 W (by decide) (by decide) hl
  obtain ⟨sl, HSL, _⟩ := str_facts l
  rw [HSL.out] at hd
  rw [HSL.out]
  cases hv : sgnV 128 127 l with
  | none =>
    rw [hv] at hd
    have HH : Hid (∀ w : World, Calls Tryz.prog 27 #[.string sl, .int .u64 128, .int .u64 127] w fun e w' => e = .panicked bad ∧ w' = w) := hd
    clear hd hv
    go_enter Tryz.func12, Tryz.ntmps12
    go_wp2_with fail
    refine (HH.out _).mono ?_
    rintro e w ⟨rfl, rfl⟩
    go_wp2_with fail
    exact ⟨rfl, rfl, Below.refl _ _⟩
  | some n =>
    rw [hv] at hd
    have HH : Hid (∀ w : World, Calls Tryz.prog 27 #[.string sl, .int .u64 128, .int .u64 127] w fun e w' => e = .returned (.int .u64 (n : Int)) ∧ w' = w) := hd
    clear hd hv
    go_enter Tryz.func12, Tryz.ntmps12
    go_wp2_with fail
    refine (HH.out _).mono ?_
    rintro e w ⟨rfl, rfl⟩
    go_wp2_with fail
    refine (bytesOf_any (n : Int) 1 _ (by omega) (by decide)).mono ?_
    rintro e w2 ⟨v, rfl, hf⟩
    obtain ⟨hr, rfl, hz, hb2⟩ := hf
    go_wp2_with fail
    go_ret
    exact reads_bytes (Below.refl _ _) ⟨hr, rfl, hz, hb2⟩ (by decide)

set_option maxHeartbeats 2000000 in
set_option maxRecDepth 100000 in
theorem readInt_2_2 (l : List UInt8) (W : World) (hl : l.length ≤ 1000000) :
    Calls Tryz.prog 12 #[.int .u8 2, .int .i64 2, .string (str l)] W (ReadsTo W ((sgnV 32768 32767 l).map fun n => bytesL (n : Int) 2)) := by
  have hd := fun W : World => signedRd_any l 32768 32767 W (by decide) (by decide) hl
  obtain ⟨sl, HSL, _⟩ := str_facts l
  rw [HSL.out] at hd
  rw [HSL.out]
  cases hv : sgnV 32768 32767 l with
  | none =>
    rw [hv] at hd
    have HH : Hid (∀ w : World, Calls Tryz.prog 27 #[.string sl, .int .u64 32768, .int .u64 32767] w fun e w' => e = .panicked bad ∧ w' = w) := hd
    clear hd hv
    go_enter Tryz.func12, Tryz.ntmps12
    go_wp2_with fail
    refine (HH.out _).mono ?_
    rintro e w ⟨rfl, rfl⟩
    go_wp2_with fail
    exact ⟨rfl, rfl, Below.refl _ _⟩
  | some n =>
    rw [hv] at hd
    have HH : Hid (∀ w : World, Calls Tryz.prog 27 #[.string sl, .int .u64 32768, .int .u64 32767] w fun e w' => e = .returned (.int .u64 (n : Int)) ∧ w' = w) := hd
    clear hd hv
    go_enter Tryz.func12, Tryz.ntmps12
    go_wp2_with fail
    refine (HH.out _).mono ?_
    rintro e w ⟨rfl, rfl⟩
    go_wp2_with fail
    refine (bytesOf_any (n : Int) 2 _ (by omega) (by decide)).mono ?_
    rintro e w2 ⟨v, rfl, hf⟩
    obtain ⟨hr, rfl, hz, hb2⟩ := hf
    go_wp2_with fail
    go_ret
    exact reads_bytes (Below.refl _ _) ⟨hr, rfl, hz, hb2⟩ (by decide)

set_option maxHeartbeats 2000000 in
set_option maxRecDepth 100000 in
theorem readInt_2_3 (l : List UInt8) (W : World) (hl : l.length ≤ 1000000) :
    Calls Tryz.prog 12 #[.int .u8 2, .int .i64 3, .string (str l)] W (ReadsTo W ((sgnV 8388608 8388607 l).map fun n => bytesL (n : Int) 3)) := by
  have hd := fun W : World => signedRd_any l 8388608 8388607 W (by decide) (by decide) hl
  obtain ⟨sl, HSL, _⟩ := str_facts l
  rw [HSL.out] at hd
  rw [HSL.out]
  cases hv : sgnV 8388608 8388607 l with
  | none =>
    rw [hv] at hd
    have HH : Hid (∀ w : World, Calls Tryz.prog 27 #[.string sl, .int .u64 8388608, .int .u64 8388607] w fun e w' => e = .panicked bad ∧ w' = w) := hd
    clear hd hv
    go_enter Tryz.func12, Tryz.ntmps12
    go_wp2_with fail
    refine (HH.out _).mono ?_
    rintro e w ⟨rfl, rfl⟩
    go_wp2_with fail
    exact ⟨rfl, rfl, Below.refl _ _⟩
  | some n =>
    rw [hv] at hd
    have HH : Hid (∀ w : World, Calls Tryz.prog 27 #[.string sl, .int .u64 8388608, .int .u64 8388607] w fun e w' => e = .returned (.int .u64 (n : Int)) ∧ w' = w) := hd
    clear hd hv
    go_enter Tryz.func12, Tryz.ntmps12
    go_wp2_with fail
    refine (HH.out _).mono ?_
    rintro e w ⟨rfl, rfl⟩
    go_wp2_with fail
    refine (bytesOf_any (n : Int) 3 _ (by omega) (by decide)).mono ?_
    rintro e w2 ⟨v, rfl, hf⟩
    obtain ⟨hr, rfl, hz, hb2⟩ := hf
    go_wp2_with fail
    go_ret
    exact reads_bytes (Below.refl _ _) ⟨hr, rfl, hz, hb2⟩ (by decide)

set_option maxHeartbeats 2000000 in
set_option maxRecDepth 100000 in
theorem readInt_2_4 (l : List UInt8) (W : World) (hl : l.length ≤ 1000000) :
    Calls Tryz.prog 12 #[.int .u8 2, .int .i64 4, .string (str l)] W (ReadsTo W ((sgnV 2147483648 2147483647 l).map fun n => bytesL (n : Int) 4)) := by
  have hd := fun W : World => signedRd_any l 2147483648 2147483647 W (by decide) (by decide) hl
  obtain ⟨sl, HSL, _⟩ := str_facts l
  rw [HSL.out] at hd
  rw [HSL.out]
  cases hv : sgnV 2147483648 2147483647 l with
  | none =>
    rw [hv] at hd
    have HH : Hid (∀ w : World, Calls Tryz.prog 27 #[.string sl, .int .u64 2147483648, .int .u64 2147483647] w fun e w' => e = .panicked bad ∧ w' = w) := hd
    clear hd hv
    go_enter Tryz.func12, Tryz.ntmps12
    go_wp2_with fail
    refine (HH.out _).mono ?_
    rintro e w ⟨rfl, rfl⟩
    go_wp2_with fail
    exact ⟨rfl, rfl, Below.refl _ _⟩
  | some n =>
    rw [hv] at hd
    have HH : Hid (∀ w : World, Calls Tryz.prog 27 #[.string sl, .int .u64 2147483648, .int .u64 2147483647] w fun e w' => e = .returned (.int .u64 (n : Int)) ∧ w' = w) := hd
    clear hd hv
    go_enter Tryz.func12, Tryz.ntmps12
    go_wp2_with fail
    refine (HH.out _).mono ?_
    rintro e w ⟨rfl, rfl⟩
    go_wp2_with fail
    refine (bytesOf_any (n : Int) 4 _ (by omega) (by decide)).mono ?_
    rintro e w2 ⟨v, rfl, hf⟩
    obtain ⟨hr, rfl, hz, hb2⟩ := hf
    go_wp2_with fail
    go_ret
    exact reads_bytes (Below.refl _ _) ⟨hr, rfl, hz, hb2⟩ (by decide)

set_option maxHeartbeats 2000000 in
set_option maxRecDepth 100000 in
theorem readInt_2_8 (l : List UInt8) (W : World) (hl : l.length ≤ 1000000) :
    Calls Tryz.prog 12 #[.int .u8 2, .int .i64 8, .string (str l)] W (ReadsTo W ((sgnV 9223372036854775808 9223372036854775807 l).map fun n => bytesL (n : Int) 8)) := by
  have hd := fun W : World => signedRd_any l 9223372036854775808 9223372036854775807 W (by decide) (by decide) hl
  obtain ⟨sl, HSL, _⟩ := str_facts l
  rw [HSL.out] at hd
  rw [HSL.out]
  cases hv : sgnV 9223372036854775808 9223372036854775807 l with
  | none =>
    rw [hv] at hd
    have HH : Hid (∀ w : World, Calls Tryz.prog 27 #[.string sl, .int .u64 9223372036854775808, .int .u64 9223372036854775807] w fun e w' => e = .panicked bad ∧ w' = w) := hd
    clear hd hv
    go_enter Tryz.func12, Tryz.ntmps12
    go_wp2_with fail
    refine (HH.out _).mono ?_
    rintro e w ⟨rfl, rfl⟩
    go_wp2_with fail
    exact ⟨rfl, rfl, Below.refl _ _⟩
  | some n =>
    rw [hv] at hd
    have HH : Hid (∀ w : World, Calls Tryz.prog 27 #[.string sl, .int .u64 9223372036854775808, .int .u64 9223372036854775807] w fun e w' => e = .returned (.int .u64 (n : Int)) ∧ w' = w) := hd
    clear hd hv
    go_enter Tryz.func12, Tryz.ntmps12
    go_wp2_with fail
    refine (HH.out _).mono ?_
    rintro e w ⟨rfl, rfl⟩
    go_wp2_with fail
    refine (bytesOf_any (n : Int) 8 _ (by omega) (by decide)).mono ?_
    rintro e w2 ⟨v, rfl, hf⟩
    obtain ⟨hr, rfl, hz, hb2⟩ := hf
    go_wp2_with fail
    go_ret
    exact reads_bytes (Below.refl _ _) ⟨hr, rfl, hz, hb2⟩ (by decide)

set_option maxHeartbeats 2000000 in
set_option maxRecDepth 100000 in
theorem readInt_3_1 (l : List UInt8) (W : World) (hl : l.length ≤ 1000000) :
    Calls Tryz.prog 12 #[.int .u8 3, .int .i64 1, .string (str l)] W (ReadsTo W ((unsV 255 l).map fun n => bytesL (n : Int) 1)) := by
  have hd := fun W : World => unsignedRd_any l 255 W (by decide) hl
  obtain ⟨sl, HSL, _⟩ := str_facts l
  rw [HSL.out] at hd
  rw [HSL.out]
  cases hv : unsV 255 l with
  | none =>
    rw [hv] at hd
    have HH : Hid (∀ w : World, Calls Tryz.prog 28 #[.string sl, .int .u64 255] w fun e w' => e = .panicked bad ∧ w' = w) := hd
    clear hd hv
    go_enter Tryz.func12, Tryz.ntmps12
    go_wp2_with fail
    refine (HH.out _).mono ?_
    rintro e w ⟨rfl, rfl⟩
    go_wp2_with fail
    exact ⟨rfl, rfl, Below.refl _ _⟩
  | some n =>
    rw [hv] at hd
    have HH : Hid (∀ w : World, Calls Tryz.prog 28 #[.string sl, .int .u64 255] w fun e w' => e = .returned (.int .u64 (n : Int)) ∧ w' = w) := hd
    clear hd hv
    go_enter Tryz.func12, Tryz.ntmps12
    go_wp2_with fail
    refine (HH.out _).mono ?_
    rintro e w ⟨rfl, rfl⟩
    go_wp2_with fail
    refine (bytesOf_any (n : Int) 1 _ (by omega) (by decide)).mono ?_
    rintro e w2 ⟨v, rfl, hf⟩
    obtain ⟨hr, rfl, hz, hb2⟩ := hf
    go_wp2_with fail
    go_ret
    exact reads_bytes (Below.refl _ _) ⟨hr, rfl, hz, hb2⟩ (by decide)

set_option maxHeartbeats 2000000 in
set_option maxRecDepth 100000 in
theorem readInt_3_2 (l : List UInt8) (W : World) (hl : l.length ≤ 1000000) :
    Calls Tryz.prog 12 #[.int .u8 3, .int .i64 2, .string (str l)] W (ReadsTo W ((unsV 65535 l).map fun n => bytesL (n : Int) 2)) := by
  have hd := fun W : World => unsignedRd_any l 65535 W (by decide) hl
  obtain ⟨sl, HSL, _⟩ := str_facts l
  rw [HSL.out] at hd
  rw [HSL.out]
  cases hv : unsV 65535 l with
  | none =>
    rw [hv] at hd
    have HH : Hid (∀ w : World, Calls Tryz.prog 28 #[.string sl, .int .u64 65535] w fun e w' => e = .panicked bad ∧ w' = w) := hd
    clear hd hv
    go_enter Tryz.func12, Tryz.ntmps12
    go_wp2_with fail
    refine (HH.out _).mono ?_
    rintro e w ⟨rfl, rfl⟩
    go_wp2_with fail
    exact ⟨rfl, rfl, Below.refl _ _⟩
  | some n =>
    rw [hv] at hd
    have HH : Hid (∀ w : World, Calls Tryz.prog 28 #[.string sl, .int .u64 65535] w fun e w' => e = .returned (.int .u64 (n : Int)) ∧ w' = w) := hd
    clear hd hv
    go_enter Tryz.func12, Tryz.ntmps12
    go_wp2_with fail
    refine (HH.out _).mono ?_
    rintro e w ⟨rfl, rfl⟩
    go_wp2_with fail
    refine (bytesOf_any (n : Int) 2 _ (by omega) (by decide)).mono ?_
    rintro e w2 ⟨v, rfl, hf⟩
    obtain ⟨hr, rfl, hz, hb2⟩ := hf
    go_wp2_with fail
    go_ret
    exact reads_bytes (Below.refl _ _) ⟨hr, rfl, hz, hb2⟩ (by decide)

set_option maxHeartbeats 2000000 in
set_option maxRecDepth 100000 in
theorem readInt_3_3 (l : List UInt8) (W : World) (hl : l.length ≤ 1000000) :
    Calls Tryz.prog 12 #[.int .u8 3, .int .i64 3, .string (str l)] W (ReadsTo W ((unsV 16777215 l).map fun n => bytesL (n : Int) 3)) := by
  have hd := fun W : World => unsignedRd_any l 16777215 W (by decide) hl
  obtain ⟨sl, HSL, _⟩ := str_facts l
  rw [HSL.out] at hd
  rw [HSL.out]
  cases hv : unsV 16777215 l with
  | none =>
    rw [hv] at hd
    have HH : Hid (∀ w : World, Calls Tryz.prog 28 #[.string sl, .int .u64 16777215] w fun e w' => e = .panicked bad ∧ w' = w) := hd
    clear hd hv
    go_enter Tryz.func12, Tryz.ntmps12
    go_wp2_with fail
    refine (HH.out _).mono ?_
    rintro e w ⟨rfl, rfl⟩
    go_wp2_with fail
    exact ⟨rfl, rfl, Below.refl _ _⟩
  | some n =>
    rw [hv] at hd
    have HH : Hid (∀ w : World, Calls Tryz.prog 28 #[.string sl, .int .u64 16777215] w fun e w' => e = .returned (.int .u64 (n : Int)) ∧ w' = w) := hd
    clear hd hv
    go_enter Tryz.func12, Tryz.ntmps12
    go_wp2_with fail
    refine (HH.out _).mono ?_
    rintro e w ⟨rfl, rfl⟩
    go_wp2_with fail
    refine (bytesOf_any (n : Int) 3 _ (by omega) (by decide)).mono ?_
    rintro e w2 ⟨v, rfl, hf⟩
    obtain ⟨hr, rfl, hz, hb2⟩ := hf
    go_wp2_with fail
    go_ret
    exact reads_bytes (Below.refl _ _) ⟨hr, rfl, hz, hb2⟩ (by decide)

set_option maxHeartbeats 2000000 in
set_option maxRecDepth 100000 in
theorem readInt_3_4 (l : List UInt8) (W : World) (hl : l.length ≤ 1000000) :
    Calls Tryz.prog 12 #[.int .u8 3, .int .i64 4, .string (str l)] W (ReadsTo W ((unsV 4294967295 l).map fun n => bytesL (n : Int) 4)) := by
  have hd := fun W : World => unsignedRd_any l 4294967295 W (by decide) hl
  obtain ⟨sl, HSL, _⟩ := str_facts l
  rw [HSL.out] at hd
  rw [HSL.out]
  cases hv : unsV 4294967295 l with
  | none =>
    rw [hv] at hd
    have HH : Hid (∀ w : World, Calls Tryz.prog 28 #[.string sl, .int .u64 4294967295] w fun e w' => e = .panicked bad ∧ w' = w) := hd
    clear hd hv
    go_enter Tryz.func12, Tryz.ntmps12
    go_wp2_with fail
    refine (HH.out _).mono ?_
    rintro e w ⟨rfl, rfl⟩
    go_wp2_with fail
    exact ⟨rfl, rfl, Below.refl _ _⟩
  | some n =>
    rw [hv] at hd
    have HH : Hid (∀ w : World, Calls Tryz.prog 28 #[.string sl, .int .u64 4294967295] w fun e w' => e = .returned (.int .u64 (n : Int)) ∧ w' = w) := hd
    clear hd hv
    go_enter Tryz.func12, Tryz.ntmps12
    go_wp2_with fail
    refine (HH.out _).mono ?_
    rintro e w ⟨rfl, rfl⟩
    go_wp2_with fail
    refine (bytesOf_any (n : Int) 4 _ (by omega) (by decide)).mono ?_
    rintro e w2 ⟨v, rfl, hf⟩
    obtain ⟨hr, rfl, hz, hb2⟩ := hf
    go_wp2_with fail
    go_ret
    exact reads_bytes (Below.refl _ _) ⟨hr, rfl, hz, hb2⟩ (by decide)

set_option maxHeartbeats 2000000 in
set_option maxRecDepth 100000 in
theorem readInt_3_8 (l : List UInt8) (W : World) (hl : l.length ≤ 1000000) :
    Calls Tryz.prog 12 #[.int .u8 3, .int .i64 8, .string (str l)] W (ReadsTo W ((unsV 18446744073709551615 l).map fun n => bytesL (n : Int) 8)) := by
  have hd := fun W : World => unsignedRd_any l 18446744073709551615 W (by decide) hl
  obtain ⟨sl, HSL, _⟩ := str_facts l
  rw [HSL.out] at hd
  rw [HSL.out]
  cases hv : unsV 18446744073709551615 l with
  | none =>
    rw [hv] at hd
    have HH : Hid (∀ w : World, Calls Tryz.prog 28 #[.string sl, .int .u64 18446744073709551615] w fun e w' => e = .panicked bad ∧ w' = w) := hd
    clear hd hv
    go_enter Tryz.func12, Tryz.ntmps12
    go_wp2_with fail
    refine (HH.out _).mono ?_
    rintro e w ⟨rfl, rfl⟩
    go_wp2_with fail
    exact ⟨rfl, rfl, Below.refl _ _⟩
  | some n =>
    rw [hv] at hd
    have HH : Hid (∀ w : World, Calls Tryz.prog 28 #[.string sl, .int .u64 18446744073709551615] w fun e w' => e = .returned (.int .u64 (n : Int)) ∧ w' = w) := hd
    clear hd hv
    go_enter Tryz.func12, Tryz.ntmps12
    go_wp2_with fail
    refine (HH.out _).mono ?_
    rintro e w ⟨rfl, rfl⟩
    go_wp2_with fail
    refine (bytesOf_any (n : Int) 8 _ (by omega) (by decide)).mono ?_
    rintro e w2 ⟨v, rfl, hf⟩
    obtain ⟨hr, rfl, hz, hb2⟩ := hf
    go_wp2_with fail
    go_ret
    exact reads_bytes (Below.refl _ _) ⟨hr, rfl, hz, hb2⟩ (by decide)

theorem valueInt_any (t : Int) (l : List UInt8) (w : World) (hk : kindN t = 2 ∨ kindN t = 3) (hl : l.length ≤ 1000000) (hT : Tabs w) :
    Calls Tryz.prog 5 #[.int .u8 t, .string (str l)] w (ValueTo w (intV t l)) := by
  refine value_of t (str l) (intV t l) w (by omega) hT fun W _ => ?_
  have hs := int_sizes t hk
  unfold intV
  rcases hk with hk | hk
  all_goals rcases hs with hs | hs | hs | hs | hs
  all_goals rw [hk, hs]
  · exact readInt_2_1 l W hl
  · exact readInt_2_2 l W hl
  · exact readInt_2_3 l W hl
  · exact readInt_2_4 l W hl
  · exact readInt_2_8 l W hl
  · exact readInt_3_1 l W hl
  · exact readInt_3_2 l W hl
  · exact readInt_3_3 l W hl
  · exact readInt_3_4 l W hl
  · exact readInt_3_8 l W hl
#print axioms valueInt_any
end Go.Proofs.YtkfmmpolcjbnbaaGreatDoor
