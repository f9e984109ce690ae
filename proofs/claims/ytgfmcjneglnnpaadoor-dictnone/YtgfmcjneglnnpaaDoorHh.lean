/-
  Rows of bytes of one's own; a record put behind them.
-/
import Derived.Test.YtgfmcjneglnnpaaDoorHg
import Derived.Deep.AppendLies
namespace Go.Proofs.YtgfmcjneglnnpaaDoor
open Go.RowKit

/-- Bytes in memory of their own. -/
abbrev IsO (w : World) (base : Nat) (v : Value) (zs : List Int) : Prop := w.ownsRow base 5 1 v zs.length (zs.map (Value.int .u8))
theorem infoU : (Tryd.prog.info? 5).map (fun i => (i.zero, i.size, i.bytes)) = some (some (.int .u8 0), 1, 1) := by kernel_rfl
theorem isO_nil (w : World) (b : Nat) : IsO w b (.slice none 0 0) [] := ⟨rfl, .inl ⟨rfl, rfl⟩⟩
theorem IsO.kept2 {w w' : World} {b : Nat} {v : Value} {zs : List Int} (h : IsO w b v zs) (hk : ∀ k, v.ownBlock = some k → w'.heap[k]? = w.heap[k]?) : IsO w' b v zs := by
  refine ⟨h.1, ?_⟩
  rcases h.2 with ⟨h1, h2⟩ | ⟨g, cap, cur, hv, hb, hh, r⟩
  · exact .inl ⟨h1, h2⟩
  · exact .inr ⟨g, cap, cur, hv, hb, (hk g (by rw [hv]; rfl)).trans hh, r⟩
theorem IsO.next {w w' : World} {b : Nat} {v : Value} {zs : List Int} (h : IsO w b v zs) (hb : Below w.heap.size w w') : IsO w' b v zs := h.kept2 fun k hk => hb.block k (h.lt k hk).2
theorem IsO.row {w : World} {b : Nat} {v : Value} {zs : List Int} (h : IsO w b v zs) (ho : Oct zs) : ∃ a cap, v = .slice a zs.length cap ∧ zs.length ≤ cap ∧ cap ≤ maxLen ∧ Row w a zs.length zs := by
  rcases h.2 with ⟨rfl, h0⟩ | ⟨g, cap, cur, rfl, hg, hc, hn, hm, hs, ht⟩
  · obtain rfl := List.eq_nil_of_length_eq_zero h0
    exact ⟨none, 0, rfl, Nat.le_refl _, by decide, row_nil w⟩
  · refine ⟨_, cap, rfl, hn, hm, ⟨rfl, ho, fun _ => ⟨g, 0, rfl, fun i hi => ?_⟩⟩⟩
    have := h.cellAt i (by omega)
    rw [Nat.zero_add, this]
    simp [List.getD_eq_getElem?_getD, hi]
/-- A row of bytes put behind such that are one's own. -/
theorem wpList_append_row {ops : Array Oper} {rest : List Oper} {o : Oper} {a : Act} {w : World} {Q : Exit → Act → World → Prop} (hgd : o.guard = none) (s x : Operand)
    (ho : o.op = .call { callee := .builtin .append, args := #[s, x], argTypes := #[25, 25] }) (base : Nat) (v : Value) (zs : List Int) (hs : a.eval s = v) (hown : IsO w base v zs) (hz : 0 < zs.length)
    (ad : Option Addr) (len cap : Nat) (ys : List Int) (hx : a.eval x = .slice ad len cap) (hr : Row w ad len ys) (h63 : zs.length + len ≤ 100000000000) (hbase : base ≤ w.heap.size)
    (h : ∀ v' w', IsO w' base v' (zs ++ ys) → w.grownBy w' v.ownBlock → wpList Tryd.prog ops Q rest (a.put o.dst v') w') : wpList Tryd.prog ops Q (o :: rest) a w := by
  obtain ⟨i0, hi, hz0, hz1, hz2⟩ := info_parts infoU
  rcases Nat.eq_zero_or_pos len with rfl | hp
  · obtain rfl := hr.nil
    have hown' := hown
    rcases hown.2 with ⟨_, h0⟩ | ⟨g, cp, cur, rfl, hg, hc, hn, hm, hsz, ht⟩
    · omega
    · have hsrc : Src Tryd.prog i0.size 25 (.slice ad 0 cap) 0 [] w := by
        cases ad with
        | none => exact Src.ofNil w Tryd.underlying25 cap
        | some b => exact Src.ofSlice w Tryd.underlying25 b 0 cap [] (by simp) (by simp) (by simp)
      have hrun := run_append_room_src (P := Tryd.prog) w 25 25 o.type 5 i0 Tryd.underlying25 hi g 0 zs.length cp _ 0 [] hsrc (by omega) (by simp) (by simp)
      refine wpList_plain hgd fun K' hK' => ?_
      unfold Oper.wp
      simp [execOp, ho, resolve, invoke, builtin, hs, hx, hrun, Result.andThen]
      refine hK' _ _ (h _ _ ?_ ?_)
      · rw [List.append_nil]
        exact hown'
      · exact ⟨rfl, rfl, rfl, Nat.le_refl _, fun _ _ _ => rfl⟩
  · obtain ⟨b, off, rfl, hc⟩ := hr.at_ hp
    refine wpList_append_own (P := Tryd.prog) w hgd s x 25 ho base 5 i0 _ 1 1 Tryd.underlying25 hi hz0 hz1 hz2 rfl (by decide) v zs.length _ hs hown ⟨b, off, none⟩ len cap (ys.map (Value.int .u8)) hx (by simp [hr.size]) ?_ (fun u hu => by obtain ⟨q, _, rfl⟩ := List.mem_map.1 hu; rfl) (by unfold maxLen; omega) (by omega) hbase ?_
    · intro j u hj
      have hjl : j < ys.length := by
        have := (List.getElem?_eq_some_iff.1 hj).1
        simpa using this
      rw [Addr.add_lit, hc j (by rw [← hr.size]; exact hjl)]
      rw [List.getElem?_map, List.getElem?_eq_getElem hjl] at hj
      rw [List.getD_eq_getElem?_getD, List.getElem?_eq_getElem hjl]
      simpa using hj
    · intro v' w' k1 k2 _
      refine h v' w' ?_ k2
      show w'.ownsRow base 5 1 v' (zs ++ ys).length ((zs ++ ys).map (Value.int .u8))
      rw [List.map_append, List.length_append, hr.size]
      exact k1
#print axioms wpList_append_row

/-- A record's bytes. -/
def recB (i s : Int) (zv : List Int) : List Int := [i % 256, i / 256, s, (zv.length : Int) % 256, (zv.length : Int) / 256 % 256] ++ zv

set_option linter.unusedSimpArgs false in
set_option maxHeartbeats 4000000 in
set_option maxRecDepth 100000 in
theorem appendTo_any (i s : Int) (v : Option Addr) (lv cv : Nat) (zv zs : List Int) (rv : Value) (base : Nat) (w : World) (hown : IsO w base rv zs) (hbase : base ≤ w.heap.size) (HV : ∀ W, Below base w W → Row W v lv zv) (hi : 0 ≤ i) (hi' : i < 65536) (hlv : lv ≤ 16777216) (hl : zs.length ≤ 50000000000) :
    Calls Tryd.prog 35 #[.agg #[.int .u16 i, .int .u8 s, .slice v lv cv], rv] w fun e w' => ∃ v', e = .returned v' ∧ IsO w' base v' (zs ++ recB i s zv) ∧ w.grownBy w' rv.ownBlock := by
  obtain ⟨i0, hi0, hz0, hz1, hz2⟩ := info_parts infoU
  have HO : Hid (IsO w base rv zs) := hown
  have HW : Hid (∀ W, Below base w W → Row W v lv zv) := HV
  have HL : Hid (zv.length = lv) := (HV w (Below.refl _ _)).size
  have OB : Hid (∀ k, rv.ownBlock = some k → base ≤ k ∧ k < w.heap.size) := hown.lt
  clear hown HV
  go_enter Tryd.func35, Tryd.ntmps35
  go_wp2_with (at_builtin; refine wpList_append_lies _ rfl _ _ 25 rfl base 5 i0 (.int .u8 0) 1 1 Tryd.underlying25 hi0 hz0 hz1 hz2 rfl (by decide) rv zs.length (zs.map (Value.int .u8)) rfl (HO.out.next (by repeat (first | exact Below.refl _ _ | apply Below.drew | apply Below.al))) ⟨w.heap.size + 1, 0, none⟩ 5 5 ([i % 256, i / 256, s, (lv : Int) % 256, (lv : Int) / 256 % 256].map (Value.int .u8)) rfl rfl ?c1 ?c2 (by decide) ?c3 ?c4 ?c5 (w.heap.size + 2) (by simp) ?_)
  case c1 =>
    intro j u hj
    rw [Addr.add_lit, Nat.zero_add]
    match j, hj with
    | 0, hj => rw [cell_of_row _ _ 0 _ _ _ (at11 _ _ _ (by simp))]; simpa using hj
    | 1, hj => rw [cell_of_row _ _ 1 _ _ _ (at11 _ _ _ (by simp))]; simpa using hj
    | 2, hj => rw [cell_of_row _ _ 2 _ _ _ (at11 _ _ _ (by simp))]; simpa using hj
    | 3, hj => rw [cell_of_row _ _ 3 _ _ _ (at11 _ _ _ (by simp))]; simpa using hj
    | 4, hj => rw [cell_of_row _ _ 4 _ _ _ (at11 _ _ _ (by simp))]; simpa using hj
  case c2 =>
    intro u hu
    obtain ⟨q, _, rfl⟩ := List.mem_map.1 hu
    rfl
  case c3 => unfold maxLen; omega
  case c4 => omega
  case c5 => simp; omega
  intro g cap w1 h1 h2 hg _
  obtain ⟨v1, hv1⟩ : ∃ v1, Hid (v1 = Value.slice (some ⟨g, 0, none⟩) (zs.length + 5) cap) := ⟨_, rfl⟩
  rw [← hv1.out] at h1 ⊢
  have HG : Hid (∀ k, some k = v1.ownBlock → some k = rv.ownBlock ∨ k = w.heap.size + 2) := fun k hk => by
    rw [hv1.out] at hk
    cases hk
    exact hg.imp (fun e => e.symm) id
  have HZ : Hid (IsO w1 base v1 (zs ++ [i % 256, i / 256, s, (lv : Int) % 256, (lv : Int) / 256 % 256])) := by
    show w1.ownsRow _ _ _ _ _ _
    rw [List.length_append, List.map_append]
    exact h1
  have G1 : Hid (w.grownBy w1 rv.ownBlock) := ⟨h2.os, h2.tape, h2.output, by have := h2.size; simp at this; omega, fun k hk hn => by
    rw [h2.block k (by simp; omega) hn, Below.heap_alloc _ _ _ (by simp; omega), Below.heap_alloc _ _ _ (by omega)]⟩
  have B1 : Hid (Below base w w1) := ⟨h2.os, h2.tape, h2.output, G1.out.size, fun k hk => G1.out.block k (by omega) (fun e => by have := (OB.out k e.symm).1; omega)⟩
  have X1 : Hid (w1.heap[w.heap.size]? = some (.cells #[.int .u16 i, .int .u8 s, .slice v lv cv] 76 (0, 0))) := by
    show w1.heap[w.heap.size]? = _
    rw [h2.block w.heap.size (by simp; omega) (fun e => by have := (OB.out _ e.symm).2; omega)]
    exact ext11 (at11 _ _ _ rfl)
  have c2 : w1.cell? ⟨w.heap.size, 2, none⟩ = some (.slice v lv cv) := by rw [cell_of_row _ _ 2 _ _ _ X1.out]; rfl
  have RW := HW.out w1 B1.out
  have hb1 : base ≤ w1.heap.size := by have := G1.out.size; omega
  clear h1 h2 hg
  go_wp2_with (at_builtin; refine wpList_append_row rfl _ _ rfl base v1 _ rfl HZ.out (by simp) v lv cv zv rfl RW (by simp; omega) hb1 ?_)
  intro v2 w2 k1 k2
  have R : Hid (IsO w2 base v2 (zs ++ recB i s zv) ∧ w.grownBy w2 rv.ownBlock) := by
    refine ⟨?_, k2.os.trans G1.out.os, k2.tape.trans G1.out.tape, k2.output.trans G1.out.output, Nat.le_trans G1.out.size k2.size, fun k hk hn => ?_⟩
    · unfold recB
      rw [HL.out]
      exact k1
    · rw [k2.block k (by have := G1.out.size; omega) (fun e => (HG.out k e).elim hn (fun q => by omega))]
      exact G1.out.block k hk hn
  clear k1 k2
  go_wp2_with fail
  go_ret
  exact ⟨_, rfl, R.out⟩
#print axioms appendTo_any
end Go.Proofs.YtgfmcjneglnnpaaDoor
