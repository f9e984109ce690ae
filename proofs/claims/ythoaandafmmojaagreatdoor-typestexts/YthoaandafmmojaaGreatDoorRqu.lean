/-
  The walk of the document's quoted: bytes in quotes.
-/
import Derived.Test.YthoaandafmmojaaGreatDoorQuo
import Derived.Test.YthoaandafmmojaaGreatDoorRhx
namespace Go.Proofs.YthoaandafmmojaaGreatDoor
open Pl Go.RowKit

theorem own_str {w : World} {B : Nat} {v : Value} {xs : List Value} {zs : List Int} (h : w.ownsRow B 5 1 v zs.length xs) (hz : xs = zs.map (Value.int .u8)) (ho : Oct zs) :
    (convert 22 9 v).run Tryz.prog w = .ok (.string (strOfNums zs)) w := by
  rcases h.2 with ⟨rfl, h0⟩ | ⟨g, cap, cur, rfl, hg, hc, hn, hm, hs, ht⟩
  · have : zs = [] := List.eq_nil_of_length_eq_zero h0
    subst this
    exact (row_nil w).str' 0
  · have r : Row w (some ⟨g, 0, none⟩) zs.length zs := ⟨rfl, ho, fun _ => ⟨g, 0, rfl, fun i hi => by
      have := h.cellAt i (by omega)
      rw [Nat.zero_add, this, hz]
      simp [List.getD_eq_getElem?_getD, hi]⟩⟩
    exact r.str' cap

theorem lit_cells (W : World) (c : Array Value) (T : TypeId) (l : List Value) (h : c.toList = l) : ∀ j u, l[j]? = some u → (W.alloc (.cells c T)).cell? ((⟨W.heap.size, 0, none⟩ : Addr).add j) = some u := by
  intro j u hj
  rw [Lib.add_plain, Nat.zero_add, World.cell?_alloc_new, ← Array.getElem?_toList, h]
  exact hj
theorem ints_one (l : List Int) : ∀ u ∈ l.map (Value.int .u8), u.oneCell' = true := by
  intro u hu
  obtain ⟨_, _, rfl⟩ := List.mem_map.1 hu
  rfl

/-- What stays owned through what leaves all blocks as they were. -/
theorem own_next {w w' : World} {B e size : Nat} {v : Value} {n : Nat} {xs : List Value} (h : w.ownsRow B e size v n xs) (hb : Below w.heap.size w w') : w'.ownsRow B e size v n xs := by
  refine h.kept (row := none) ⟨hb.os, hb.tape, hb.output, hb.size, fun k hk _ => hb.block k hk⟩ ?_
  cases h : v.ownBlock with
  | none => exact .inl rfl
  | some x => exact .inr (by simp)

set_option maxHeartbeats 8000000 in
set_option maxRecDepth 100000 in
theorem refQuoted_any (a : Option Addr) (len cap : Nat) (zs : List Int) (w : World) (hr : Row w a len zs) (hl : len ≤ 1048576) :
    Calls Tryz.prog 21 #[.slice a len cap] w fun e w' => e = .returned (.string (strOfNums (34 :: quoL zs ++ [34]))) ∧ Below w.heap.size w w' := by
  have hs := hr.size
  obtain ⟨i0, hi, hz0, hz1, hz2⟩ := info_parts infoByte
  go_enter Tryz.func21, Tryz.ntmps21
  go_wp2_with (at_builtin; refine wpList_append_own _ rfl _ _ 22 rfl w.heap.size 5 i0 (.int .u8 0) 1 1 Tryz.underlying22 hi hz0 hz1 hz2 rfl (by decide) _ _ _ rfl (World.ownsRow_nil _ _ _ _) ⟨w.heap.size, 0, none⟩ 1 1 [.int .u8 34] rfl rfl (lit_cells w _ _ _ rfl) (ints_one [34]) (by decide) (by decide) (by simp) ?_)
  intro v0 w0 hown0 hgrow0 _
  have hw0 : Below w.heap.size w w0 := (Below.al (Below.refl _ _) _).grown hgrow0 (by simp) (fun j hj => by simp [Value.ownBlock] at hj)
  clear hgrow0
  go_wp2_with fail
  go_loopw [3, 4] (fun v i wr => ∃ k : Nat, k ≤ len ∧ i = .int .i64 (k : Int) ∧ Below w.heap.size w wr ∧ wr.ownsRow w.heap.size 5 1 v (34 :: quoL (zs.take k)).length ((34 :: quoL (zs.take k)).map (Value.int .u8)))
    (fun _ i _ => len - (intOf i).toNat)
  case atStart => exact ⟨0, Nat.zero_le _, rfl, hw0, hown0⟩
  case round =>
    obtain ⟨k, hk, rfl, hb, hown⟩ := hrel
    by_cases hlt : k < len
    · obtain ⟨b, off, rfl, hc⟩ := (hr.next hb).at_ (by omega)
      have hck := hc k hlt
      have ho := hr.oct.getD k
      have hx : zs.take (k + 1) = zs.take k ++ [zs.getD k 0] := by
        rw [List.take_succ_eq_append_getElem (by omega)]
        simp [List.getD_eq_getElem?_getD, show k < zs.length by omega]
      have hlt' : (k : Int) < (len : Int) := by omega
      have hn : (34 :: quoL (zs.take k)).length ≤ 5000000 := by
        have := quoL_len (zs.take k)
        rw [List.length_take] at this
        rw [List.length_cons]; omega
      have X : Hid (34 :: quoL (zs.take (k + 1)) = (34 :: quoL (zs.take k)) ++ quoB (zs.getD k 0)) := by
        show _ = _
        rw [hx, quoL_snoc, ← List.cons_append]
      generalize zs.getD k 0 = z at *
      generalize 34 :: quoL (zs.take k) = L at *
      have hB := hb.size
      clear hc hx hw0 hown0
      by_cases c1 : z = 34 ∨ z = 92
      · have Q : Hid (quoB z = [92, z]) := by show quoB z = _; unfold quoB; rw [if_pos c1]
        have step : ∀ P : Prop, ((z == 34) = true → P) → ((z == 34) = false → (z == 92) = true → P) → P := fun P h1 h2 => by
          rcases c1 with h | h
          · exact h1 (by simp [h])
          · exact h2 (by simp [h]) (by simp [h])
        refine step _ (fun b1 => ?_) (fun b1 b2 => ?_)
        all_goals
          clear step c1
          go_wp2_with (at_builtin; refine wpList_append_own _ rfl _ _ 22 rfl w.heap.size 5 i0 (.int .u8 0) 1 1 Tryz.underlying22 hi hz0 hz1 hz2 rfl (by decide) _ _ _ rfl (hown.alloc _) ⟨wr.heap.size, 0, none⟩ 2 2 [.int .u8 92, .int .u8 z] rfl rfl (lit_cells wr _ _ _ rfl) (ints_one [92, z]) (by unfold maxLen; omega) (by omega) (by simp; omega) ?_)
          intro v' w2 hown' hgrow _
          go_wp2_with fail
          refine ⟨⟨k + 1, by omega, by go_num, (Below.al hb _).grown hgrow (by simp; omega) (fun j hj => (hown.lt j hj).1), ?_⟩, by simp [intOf]; omega⟩
          rw [X.out, Q.out, List.length_append, List.map_append]
          exact hown'
      have b1 : (z == 34) = false := by simp; omega
      have b2 : (z == 92) = false := by simp; omega
      by_cases c3 : 32 ≤ z ∧ z ≤ 126
      · have Q : Hid (quoB z = [z]) := by show quoB z = _; unfold quoB; rw [if_neg c1, if_pos c3]
        have d1 := c3.1
        have d2 := c3.2
        clear c1 c3
        go_wp2_with (at_builtin; refine wpList_append_own _ rfl _ _ 22 rfl w.heap.size 5 i0 (.int .u8 0) 1 1 Tryz.underlying22 hi hz0 hz1 hz2 rfl (by decide) _ _ _ rfl (hown.alloc _) ⟨wr.heap.size, 0, none⟩ 1 1 [.int .u8 z] rfl rfl (lit_cells wr _ _ _ rfl) (ints_one [z]) (by unfold maxLen; omega) (by omega) (by simp; omega) ?_)
        intro v' w2 hown' hgrow _
        go_wp2_with fail
        refine ⟨⟨k + 1, by omega, by go_num, (Below.al hb _).grown hgrow (by simp; omega) (fun j hj => (hown.lt j hj).1), ?_⟩, by simp [intOf]; omega⟩
        rw [X.out, Q.out, List.length_append, List.map_append]
        exact hown'
      · have Q : Hid (quoB z = [92, 120] ++ hexR z 2) := by show quoB z = _; unfold quoB; rw [if_neg c1, if_neg c3, hexR_two z ho.1 ho.2]; rfl
        have h1 := hexZ_bd (z / 16) (by omega) (by omega)
        have h2 := hexZ_bd (z % 16) (by omega) (by omega)
        have hoh : Oct (hexR z 2) := by rw [hexR_two z ho.1 ho.2]; intro n hn; simp at hn; omega
        have SC : Hid (Lib.strCells (strOfNums (hexR z 2)) = (hexR z 2).map (Value.int .u8)) := strCells_nums _ hoh
        have hzw : IntKind.u64.wrap z = z := u64_wrap_id _ (by omega) (by omega)
        have hsz : (strOfNums (hexR z 2)).size = 2 := by rw [strOfNums_size, hexR_len]
        obtain ⟨s1, HS⟩ : ∃ s, Hid (strOfNums (hexR z 2) = s) := ⟨_, rfl⟩
        rw [HS.out] at SC hsz
        have split : ∀ P : Prop, (32 ≤ z → ¬ z ≤ 126 → P) → (¬ 32 ≤ z → P) → P := fun P h1 h2 => by
          by_cases h : 32 ≤ z
          · exact h1 h (by omega)
          · exact h2 h
        refine split _ (fun d1 d2 => ?_) (fun d1 => ?_)
        all_goals
          clear split c1 c3 h1 h2 hoh
          go_wp2_with (at_builtin; refine wpList_append_own _ rfl _ _ 22 rfl w.heap.size 5 i0 (.int .u8 0) 1 1 Tryz.underlying22 hi hz0 hz1 hz2 rfl (by decide) _ _ _ rfl (hown.alloc _) ⟨wr.heap.size, 0, none⟩ 2 2 [.int .u8 92, .int .u8 120] rfl rfl (lit_cells wr _ _ _ rfl) (ints_one [92, 120]) (by unfold maxLen; omega) (by omega) (by simp; omega) ?_)
          intro v' w2 hown' hgrow _
          have hb2 : Below w.heap.size w w2 := (Below.al hb _).grown hgrow (by simp; omega) (fun j hj => (hown.lt j hj).1)
          have hck2 : w2.cell? ⟨b, off + k, none⟩ = some (.int .u8 z) := by rw [hb2.cell (by exact hr.old (by omega) b off rfl)]; rw [← hck, hb.cell (by exact hr.old (by omega) b off rfl)]
          clear hck hgrow
          go_wp2_with fail
          refine (refHex_any z 2 _ ho.1 (by omega) (by decide)).mono ?_
          rw [HS.out]
          rintro e w3 ⟨rfl, hb3⟩
          have hown3 := own_next hown' hb3
          have hB3 : Below w.heap.size w w3 := Below.andThen hb2 hb3
          go_wp2_with (at_builtin; refine Lib.wpList_append_own_string _ rfl _ _ 22 9 rfl w.heap.size 5 i0 Tryz.underlying22 Tryz.underlying9 hi hz0 hz1 hz2 _ _ _ rfl hown3 s1 rfl (by unfold maxLen; omega) (by omega) hB3.size ?_)
          intro v4 w4 hown4 hgrow4 _
          go_wp2_with fail
          refine ⟨⟨k + 1, by omega, by go_num, hB3.grown hgrow4 hB3.size (fun j hj => (hown3.lt j hj).1), ?_⟩, by simp [intOf]; omega⟩
          rw [X.out, Q.out, List.length_append, List.length_append, hexR_len, List.map_append, List.map_append, ← SC.out]
          simpa [Nat.add_assoc] using hown4
    · obtain rfl : k = len := by omega
      have hlt' : ¬ (k : Int) < (k : Int) := by omega
      rw [List.take_of_length_le (by omega)] at hown
      have hn : (34 :: quoL zs).length ≤ 5000000 := by
        have := quoL_len zs
        rw [List.length_cons]; omega
      have ho : Oct (34 :: quoL zs ++ [34]) := fun n hn => by
        simp at hn
        rcases hn with rfl | hn | rfl
        · omega
        · exact quoL_oct zs hr.oct n hn
        · omega
      have E : Hid ((34 :: quoL zs).map (Value.int .u8) ++ [.int .u8 34] = (34 :: quoL zs ++ [34]).map (Value.int .u8)) := by
        show _ = _
        rw [List.map_append]; rfl
      have EL : Hid ((34 :: quoL zs).length + 1 = (34 :: quoL zs ++ [34]).length) := by show _ = _; rw [List.length_append]; rfl
      obtain ⟨L, HL⟩ : ∃ L, Hid (34 :: quoL zs = L) := ⟨_, rfl⟩
      rw [HL.out] at hown hn ho E EL
      have hB := hb.size
      clear hw0 hown0
      go_wp2_with (at_builtin; refine wpList_append_own _ rfl _ _ 22 rfl w.heap.size 5 i0 (.int .u8 0) 1 1 Tryz.underlying22 hi hz0 hz1 hz2 rfl (by decide) _ _ _ rfl (hown.alloc _) ⟨wr.heap.size, 0, none⟩ 1 1 [.int .u8 34] rfl rfl (lit_cells wr _ _ _ rfl) (ints_one [34]) (by unfold maxLen; omega) (by omega) (by simp; omega) ?_)
      intro v' w2 hown' hgrow _
      rw [E.out, EL.out] at hown'
      have cv := own_str hown' rfl ho
      have hb2 : Below w.heap.size w w2 := (Below.al hb _).grown hgrow (by simp; omega) (fun j hj => (hown.lt j hj).1)
      go_wp2_with fail
      go_ret
      exact ⟨ret_str (by rw [← HL.out]; rfl), hb2⟩
#print axioms refQuoted_any
end Go.Proofs.YthoaandafmmojaaGreatDoor
