/-
  lookAt behind its loop.
-/
import Derived.Test.YtgpbmccjcjoijaaJl
namespace Go.Proofs.Ytgpbmccjcjoijaa
open Go.RowKit Go.Shelf

def restAfter : Code → Option Code
  | .seq a b => match firstRange a with
    | some _ => some b
    | none => restAfter b
  | .block _ c => restAfter c
  | .scope c => restAfter c
  | _ => none
noncomputable def lkRest : Code := (Try.f33.body.bind restAfter).getD .skip
theorem size64 : (Try.prog.info? 64).map (·.size) = some 6 := by kernel_rfl
theorem agg64 : ∀ w, (isAgg 64).run Try.prog w = .ok true w := fun w => by simp [isAgg, run_underlying Try.underlying64]
abbrev half6 (p first k : Nat) (bg : Bool) (num : Int) (en : Nat) : List Value := [.pointer (some ⟨p, 0, none⟩), .int .i64 (first : Int), .int .i64 (k : Int), .bool bg, .int .u8 num, .int .i64 (en : Int)]
theorem half6_one (p first k : Nat) (bg : Bool) (num : Int) (en : Nat) : ∀ v ∈ half6 p first k bg num en, v.oneCell' = true := fun v hv => by
  simp only [half6, List.mem_cons, List.not_mem_nil, or_false] at hv
  rcases hv with rfl | rfl | rfl | rfl | rfl | rfl <;> rfl
theorem load64 {W : World} {hB p first k : Nat} {bg : Bool} {num : Int} {en : Nat} (h : W.heap[hB]? = some (.cells (half6 p first k bg num en).toArray 64 (0, 0))) : (loadVar 64 ⟨hB, 0, none⟩).run Try.prog W = .ok (.agg (half6 p first k bg num en).toArray) W := by
  have := load_part 64 6 size64 agg64 W hB 0 (half6 p first k bg num en) _ h (by simp)
  rw [this]
  rfl
theorem store64 {W : World} {g p first k : Nat} {bg : Bool} {num : Int} {en : Nat} {C : Array Value} (hC : C.size = 6) (h : W.heap[g]? = some (.cells C 64 (0, 0))) : (storeVar 64 ⟨g, 0, none⟩ (.agg (half6 p first k bg num en).toArray)).run Try.prog W = .ok () (W.setRow g (half6 p first k bg num en).toArray) := by
  have := store_part 64 6 size64 W g 0 C _ h (half6 p first k bg num en) rfl (by simp [hC]) (half6_one _ _ _ _ _ _)
  rw [this, List.take_zero, List.nil_append, List.drop_of_length_le (by simp [hC]), List.append_nil]
theorem wp_normal {c : Code} {Q : Exit → Act → World → Prop} {a : Act} {w : World} (h : Code.wp Try.prog c (fun e a' w' => match e with | .normal => Q .normal a' w' | _ => False) a w) : Code.wp Try.prog c Q a w :=
  Go.wp_mono h (fun e a' w' h' => by cases e <;> first | exact h' | exact h'.elim)
theorem ex_load {o : Oper} {a : Act} {w : World} (ty : TypeId) (x : Operand) (ho : o.op = .load ty x) (ad : Addr) (v : Value) (hx : a.eval x = .pointer (some ad)) (hr : (loadVar ty ad).run Try.prog w = .ok v w) : (execOp a.eval o).run Try.prog w = .ok (.value v) w := by
  simp only [execOp, ho, hx, Instr.loadAt, Instr.sureAddr, Sem.run_bind, Sem.run_pure, Result.andThen_ok, hr]

set_option linter.unusedSimpArgs false in
set_option maxHeartbeats 4000000 in
set_option maxRecDepth 100000 in
theorem lk_after (c0 c1 c6 c9 c10 c11 c12 c13 c14 c15 c16 c17 c18 c19 c20 c21 c22 c23 c24 c25 c26 c27 c28 c29 c30 c31 c32 c33 c34 c35 c36 c37 c38 c39 c40 c41 c42 c43 c44 c45 c46 c47 c48 c49 c50 c51 c52 c53 c54 c55 c56 c57 c58 c59 c60 c61 c62 c63 c64 : Value) (R : Ending → World → Prop) (W : World) (p first k bl len cap hB fB r2 r3 D : Nat) (S : List Nat) (b : List Int) (bg : Bool) (num : Int) (en : Nat) (gs : List Gp) (ss : List SL)
    (hk : k ≤ 64) (hlk : len = 1024 * k) (hro : Row W (some ⟨bl, 0, none⟩) len b) (hen : en ≤ len) (hcap : len ≤ cap)
    (hhalf : W.heap[hB]? = some (.cells (half6 p first k bg num en).toArray 64 (0, 0))) (hGB : GB W fB gs ss) (hIG : IsG W (hB :: fB :: S) gs ss)
    (hD : W.heap[D]? = some (.deferred (some []))) (h2 : W.heap[r2]? = some (.cells #[.pointer none, .int .i64 0, .int .i64 0, .bool false, .int .u8 0, .int .i64 0] 64 (0, 0))) (h3 : W.heap[r3]? = some (.cells z48 68 (0, 0)))
    (n23 : r2 ≠ r3) (n2h : r2 ≠ hB) (n2f : r2 ≠ fB) (n3h : r3 ≠ hB) (n3f : r3 ≠ fB) (nhf : hB ≠ fB) (nr2 : r2 ∈ S) (nr3 : r3 ∈ S)
    (hR : ∀ V ss', Kp [hB, r2, r3, D] W V → IsG V S gs ss' → R (.returned (.tuple #[.agg (half6 p first k bg num (endOf b en)).toArray, .agg (gflat gs ss').toArray, .int .i64 0])) V) :
    Code.wp Try.prog lkRest (bodyPostM Fence.wide 10 Try.prog Try.f33 R) ⟨#[c0, c1, .pointer (some ⟨r2, 0, none⟩), .pointer (some ⟨r3, 0, none⟩), .int .i64 0, .slice (some ⟨bl, 0, none⟩) len cap, c6, .pointer (some ⟨hB, 0, none⟩), .pointer (some ⟨fB, 0, none⟩), c9, c10, c11, c12, c13, c14, c15, c16, c17, c18, c19, c20, c21, c22, c23, c24, c25, c26, c27, c28, c29, c30, c31, c32, c33, c34, c35, c36, c37, c38, c39, c40, c41, c42, c43, c44, c45, c46, c47, c48, c49, c50, c51, c52, c53, c54, c55, c56, c57, c58, c59, c60, c61, c62, c63, c64], [{ target := .collected D, args := #[] }]⟩ W := by
  have hz := hro.size
  have c5 : W.cell? ⟨hB, 5, none⟩ = some (.int .i64 (en : Int)) := by rw [cell_of_row W _ _ _ _ _ hhalf]; rfl
  have g1 : (en : Int) ≤ len := by omega
  have g2 : (len : Int) ≤ cap := by omega
  have g3 : (en : Int) ≤ cap := by omega
  have HLK : Hid (len = 1024 * k) := hlk
  have hlb : len ≤ 70000 := by omega
  clear hlk
  have HR : Hid (∀ V ss', Kp [hB, r2, r3, D] W V → IsG V S gs ss' → R (.returned (.tuple #[.agg (half6 p first k bg num (endOf b en)).toArray, .agg (gflat gs ss').toArray, .int .i64 0])) V) := hR
  have nDh : D ≠ hB := fun e => by rw [e, hhalf] at hD; cases hD
  have nD2 : D ≠ r2 := fun e => by rw [e, h2] at hD; cases hD
  have nD3 : D ≠ r3 := fun e => by rw [e, h3] at hD; cases hD
  have nDf : D ≠ fB := fun e => by rw [e, hGB] at hD; cases hD
  clear hR
  conv => arg 2; whnf
  by_cases hce : cap = en
  · subst hce
    obtain rfl : len = cap := by omega
    have CT := contains_any (some ⟨bl, 0, none⟩) 0 0 (b.drop len) W ⟨by simp; omega, hro.oct.drop _, fun h => absurd h (by decide)⟩ (by omega)
    have BL : blank (b.drop len) = true := by rw [List.drop_of_length_le (by omega)]; rfl
    rw [BL] at CT
    have EO : Hid (endOf b len = len) := by show endOf b len = _; unfold endOf; rw [if_pos BL]
    clear BL hen hro
    go_wp2_with fail
    with_reducible refine CT.mono ?_
    rintro e W ⟨rfl, rfl⟩
    clear CT c5
    have S1 := store64 (W := W.drew) (p := p) (first := first) (k := k) (bg := bg) (num := num) (en := len) (C := #[.pointer none, .int .i64 0, .int .i64 0, .bool false, .int .u8 0, .int .i64 0]) rfl h2
    have m3 : (W.drew.setRow r2 (half6 p first k bg num (len)).toArray).heap[r3]? = some (.cells z48 68 (0, 0)) := by rw [setRow_other _ _ _ _ (Ne.symm n23)]; exact h3
    have S2 := store68 (W := (W.drew.setRow r2 (half6 p first k bg num (len)).toArray)) (C := z48) rfl m3 gs ss hIG.n1 hIG.n2
    have mh : (W.drew.setRow r2 (half6 p first k bg num (len)).toArray).heap[hB]? = some (.cells (half6 p first k bg num (len)).toArray 64 (0, 0)) := by rw [setRow_other _ _ _ _ (Ne.symm n2h)]; exact hhalf
    have mf : GB (W.drew.setRow r2 (half6 p first k bg num (len)).toArray) fB gs ss := by show _ = _; rw [setRow_other _ _ _ _ (Ne.symm n2f)]; exact hGB
    have mh2 : ((W.drew.setRow r2 (half6 p first k bg num (len)).toArray).setRow r3 (gflat gs ss).toArray).heap[hB]? = some (.cells (half6 p first k bg num (len)).toArray 64 (0, 0)) := by rw [setRow_other _ _ _ _ (Ne.symm n3h)]; exact mh
    have mf2 : GB ((W.drew.setRow r2 (half6 p first k bg num (len)).toArray).setRow r3 (gflat gs ss).toArray) fB gs ss := by show _ = _; rw [setRow_other _ _ _ _ (Ne.symm n3f)]; exact mf
    have md : ((W.drew.setRow r2 (half6 p first k bg num (len)).toArray).setRow r3 (gflat gs ss).toArray).heap[D]? = some (.deferred (some [])) := by rw [setRow_other _ _ _ _ nD3, setRow_other _ _ _ _ nD2]; exact hD
    have o2 : (((W.drew.setRow r2 (half6 p first k bg num (len)).toArray).setRow r3 (gflat gs ss).toArray).putObj D (.deferred none)).heap[r2]? = some (.cells (half6 p first k bg num (len)).toArray 64 (0, 0)) := by
      rw [show (((W.drew.setRow r2 (half6 p first k bg num (len)).toArray).setRow r3 (gflat gs ss).toArray).putObj D (.deferred none)).heap[r2]? = ((W.drew.setRow r2 (half6 p first k bg num (len)).toArray).setRow r3 (gflat gs ss).toArray).heap[r2]? from by simp [World.putObj, nD2], setRow_other _ _ _ _ n23]; exact setRow_heap _ _ _ _ _ _ h2
    have o3 : (((W.drew.setRow r2 (half6 p first k bg num (len)).toArray).setRow r3 (gflat gs ss).toArray).putObj D (.deferred none)).heap[r3]? = some (.cells (gflat gs ss).toArray 68 (0, 0)) := by
      rw [show (((W.drew.setRow r2 (half6 p first k bg num (len)).toArray).setRow r3 (gflat gs ss).toArray).putObj D (.deferred none)).heap[r3]? = ((W.drew.setRow r2 (half6 p first k bg num (len)).toArray).setRow r3 (gflat gs ss).toArray).heap[r3]? from by simp [World.putObj, nD3]]; exact setRow_heap _ _ _ _ _ _ m3
    have KV : Kp [hB, r2, r3, D] W (((W.drew.setRow r2 (half6 p first k bg num (len)).toArray).setRow r3 (gflat gs ss).toArray).putObj D (.deferred none)) := by
      have k1 : Kp [hB, r2, r3, D] W ((W.drew.setRow r2 (half6 p first k bg num (len)).toArray).setRow r3 (gflat gs ss).toArray) := ((Kp.refl _ _).drew.row _ _ (.inl (by simp))).row _ _ (.inl (by simp))
      exact ⟨k1.os, k1.tape, k1.output, by rw [show (((W.drew.setRow r2 (half6 p first k bg num (len)).toArray).setRow r3 (gflat gs ss).toArray).putObj D (.deferred none)).heap.size = ((W.drew.setRow r2 (half6 p first k bg num (len)).toArray).setRow r3 (gflat gs ss).toArray).heap.size from by simp [World.putObj]]; exact k1.size, fun x hx hn => by rw [show (((W.drew.setRow r2 (half6 p first k bg num (len)).toArray).setRow r3 (gflat gs ss).toArray).putObj D (.deferred none)).heap[x]? = ((W.drew.setRow r2 (half6 p first k bg num (len)).toArray).setRow r3 (gflat gs ss).toArray).heap[x]? from by simp [World.putObj, Ne.symm (fun e => hn (by simp [e]) : x ≠ D)]]; exact k1.block x hx hn⟩
    have KG : Kp [r2, r3, D] W (((W.drew.setRow r2 (half6 p first k bg num (len)).toArray).setRow r3 (gflat gs ss).toArray).putObj D (.deferred none)) := by
      have k1 : Kp [r2, r3, D] W ((W.drew.setRow r2 (half6 p first k bg num (len)).toArray).setRow r3 (gflat gs ss).toArray) := ((Kp.refl _ _).drew.row _ _ (.inl (by simp))).row _ _ (.inl (by simp))
      exact ⟨k1.os, k1.tape, k1.output, by rw [show (((W.drew.setRow r2 (half6 p first k bg num (len)).toArray).setRow r3 (gflat gs ss).toArray).putObj D (.deferred none)).heap.size = ((W.drew.setRow r2 (half6 p first k bg num (len)).toArray).setRow r3 (gflat gs ss).toArray).heap.size from by simp [World.putObj]]; exact k1.size, fun x hx hn => by rw [show (((W.drew.setRow r2 (half6 p first k bg num (len)).toArray).setRow r3 (gflat gs ss).toArray).putObj D (.deferred none)).heap[x]? = ((W.drew.setRow r2 (half6 p first k bg num (len)).toArray).setRow r3 (gflat gs ss).toArray).heap[x]? from by simp [World.putObj, Ne.symm (fun e => hn (by simp [e]) : x ≠ D)]]; exact k1.block x hx hn⟩
    have FIN : Hid (R (.returned (.tuple #[.agg (half6 p first k bg num (len)).toArray, .agg (gflat gs ss).toArray, .int .i64 0])) (((W.drew.setRow r2 (half6 p first k bg num (len)).toArray).setRow r3 (gflat gs ss).toArray).putObj D (.deferred none))) := by
      have hI3 : IsG (((W.drew.setRow r2 (half6 p first k bg num (len)).toArray).setRow r3 (gflat gs ss).toArray).putObj D (.deferred none)) S gs ss := by
        refine ⟨hIG.n1, hIG.n2, fun i g s h1 h2 => ?_⟩
        obtain ⟨r, l, bb⟩ := hIG.row i g s h1 h2
        refine ⟨r.kp' KG (fun hp bl' off e hm => ?_), l, fun hp bl' off e hm => bb hp bl' off e (by simp [hm])⟩
        simp only [List.mem_cons, List.not_mem_nil, or_false] at hm
        rcases hm with rfl | rfl | rfl
        · exact bb hp _ off e (by simp [nr2])
        · exact bb hp _ off e (by simp [nr3])
        · obtain ⟨b9, off9, e9, hc9⟩ := r.at_ hp
          rw [e] at e9; cases e9
          obtain ⟨C9, t9, f9, h9⟩ := block_of_cell (hc9 0 hp)
          rw [hD] at h9; cases h9
      have h9 := HR.out (((W.drew.setRow r2 (half6 p first k bg num (len)).toArray).setRow r3 (gflat gs ss).toArray).putObj D (.deferred none)) ss KV hI3
      rw [EO.out] at h9
      exact h9
    have L2 := load64 o2
    have L3 := load68 hIG.n1 hIG.n2 o3
    go_wp2_with fail
    refine wp_normal ?_
    refine wp_region_held_drew (S := fun z => z.heap[hB]? = some (.cells (half6 p first k bg num (len)).toArray 64 (0, 0)) ∧ GB z fB gs ss) (by kernel_rfl) (⟨hhalf, hGB⟩) (fun hHeld => ?_)
    refine wpAnyH_take (i := 0) (v := (.agg (half6 p first k bg num (len)).toArray)) rfl (by kernel_rfl) (by kernel_rfl) (by kernel_rfl) (fun _ _ _ h => h) (Or.inl ⟨by rfl, ?_⟩) (by assumption) ?_
    · intro w9 hSw
      try dsimp only at hSw
      exact ex_load 64 (.tmp 7) rfl _ _ rfl (load64 hSw.1)
    try simp only [Act.put, List.getElem_toArray, List.getElem_cons_succ, List.getElem_cons_zero, List.setIfInBounds_toArray, List.set_cons_zero, List.set_cons_succ]
    refine wpAnyH_take (i := 1) (v := (.agg (gflat gs ss).toArray)) rfl (by kernel_rfl) (by kernel_rfl) (by kernel_rfl) (fun _ _ _ h => h) (Or.inl ⟨by rfl, ?_⟩) (by assumption) ?_
    · intro w9 hSw
      try dsimp only at hSw
      exact ex_load 68 (.tmp 8) rfl _ _ rfl (load68 hIG.n1 hIG.n2 hSw.2)
    try simp only [Act.put, List.getElem_toArray, List.getElem_cons_succ, List.getElem_cons_zero, List.setIfInBounds_toArray, List.set_cons_zero, List.set_cons_succ]
    refine wpAnyH_ready (rs := [2]) (by kernel_rfl) (by simp) ?_
    refine AllReadyH.cons rfl (fun K' hK => ?_) AllReadyH.nil
    rw [if_pos (by rfl)]
    simp only [List.getElem_toArray, List.getElem_cons_succ, List.getElem_cons_zero]
    refine wp_store_by 64 (.tmp 2) (.tmp 63) rfl _ _ rfl rfl S1 ?_
    refine hK.out _ _ (⟨mh, mf⟩) (fun hHeld => ?_)
    clear hK K'
    try simp only [Act.put, List.getElem_toArray, List.getElem_cons_succ, List.getElem_cons_zero, List.setIfInBounds_toArray, List.set_cons_zero, List.set_cons_succ]
    refine wpAnyH_ready (rs := [3]) (by kernel_rfl) (by simp) ?_
    refine AllReadyH.cons rfl (fun K' hK => ?_) AllReadyH.nil
    rw [if_pos (by rfl)]
    simp only [List.getElem_toArray, List.getElem_cons_succ, List.getElem_cons_zero]
    refine wp_store_by 68 (.tmp 3) (.tmp 64) rfl _ _ rfl rfl S2 ?_
    refine hK.out _ _ (⟨mh2, mf2⟩) (fun hHeld => ?_)
    clear hK K'
    try simp only [Act.put, List.getElem_toArray, List.getElem_cons_succ, List.getElem_cons_zero, List.setIfInBounds_toArray, List.set_cons_zero, List.set_cons_succ]
    refine wpAnyH_take (i := 4) (v := (.int .i64 0)) rfl (by kernel_rfl) (by kernel_rfl) (by kernel_rfl) (fun _ _ _ h => h) (Or.inl ⟨by rfl, ?_⟩) (by assumption) ?_
    · intro w9 hSw
      try dsimp only at hSw
      go_simp
      all_goals try decide
      all_goals try assumption
      all_goals try omega
    try simp only [Act.put, List.getElem_toArray, List.getElem_cons_succ, List.getElem_cons_zero, List.setIfInBounds_toArray, List.set_cons_zero, List.set_cons_succ]
    refine wpAnyH_done (by kernel_rfl) ?_ _
    clear S1 S2 m3 mh mf mh2 mf2 o2 o3 KV KG
    go_wp2_with fail
    refine ⟨by simp, .inl ⟨_, _, rfl, run_takeDeferred md, ?_⟩⟩
    refine ⟨.tuple #[.agg (half6 p first k bg num (len)).toArray, .agg (gflat gs ss).toArray, .int .i64 0], ?_, FIN.out⟩
    simp [results, Try.results33, asAddr, L2, L3]
  · have hR1 : Row W (some ⟨bl, en, none⟩) (len - en) (b.drop en) := by
      have := hro.sub en (len - en) (by omega)
      rw [Nat.zero_add] at this
      rwa [List.take_of_length_le (by simp; omega)] at this
    have CT := contains_any (some ⟨bl, en, none⟩) (len - en) (cap - en) (b.drop en) W hR1 (by omega)
    by_cases BL : blank (b.drop en) = true
    · rw [BL] at CT
      have EO : Hid (endOf b en = en) := by show endOf b en = _; unfold endOf; rw [if_pos BL]
      clear BL hro hR1
      go_wp2_with fail
      with_reducible refine CT.mono ?_
      rintro e W ⟨rfl, rfl⟩
      clear CT c5
      have S1 := store64 (W := W.drew) (p := p) (first := first) (k := k) (bg := bg) (num := num) (en := en) (C := #[.pointer none, .int .i64 0, .int .i64 0, .bool false, .int .u8 0, .int .i64 0]) rfl h2
      have m3 : (W.drew.setRow r2 (half6 p first k bg num (en)).toArray).heap[r3]? = some (.cells z48 68 (0, 0)) := by rw [setRow_other _ _ _ _ (Ne.symm n23)]; exact h3
      have S2 := store68 (W := (W.drew.setRow r2 (half6 p first k bg num (en)).toArray)) (C := z48) rfl m3 gs ss hIG.n1 hIG.n2
      have mh : (W.drew.setRow r2 (half6 p first k bg num (en)).toArray).heap[hB]? = some (.cells (half6 p first k bg num (en)).toArray 64 (0, 0)) := by rw [setRow_other _ _ _ _ (Ne.symm n2h)]; exact hhalf
      have mf : GB (W.drew.setRow r2 (half6 p first k bg num (en)).toArray) fB gs ss := by show _ = _; rw [setRow_other _ _ _ _ (Ne.symm n2f)]; exact hGB
      have mh2 : ((W.drew.setRow r2 (half6 p first k bg num (en)).toArray).setRow r3 (gflat gs ss).toArray).heap[hB]? = some (.cells (half6 p first k bg num (en)).toArray 64 (0, 0)) := by rw [setRow_other _ _ _ _ (Ne.symm n3h)]; exact mh
      have mf2 : GB ((W.drew.setRow r2 (half6 p first k bg num (en)).toArray).setRow r3 (gflat gs ss).toArray) fB gs ss := by show _ = _; rw [setRow_other _ _ _ _ (Ne.symm n3f)]; exact mf
      have md : ((W.drew.setRow r2 (half6 p first k bg num (en)).toArray).setRow r3 (gflat gs ss).toArray).heap[D]? = some (.deferred (some [])) := by rw [setRow_other _ _ _ _ nD3, setRow_other _ _ _ _ nD2]; exact hD
      have o2 : (((W.drew.setRow r2 (half6 p first k bg num (en)).toArray).setRow r3 (gflat gs ss).toArray).putObj D (.deferred none)).heap[r2]? = some (.cells (half6 p first k bg num (en)).toArray 64 (0, 0)) := by
        rw [show (((W.drew.setRow r2 (half6 p first k bg num (en)).toArray).setRow r3 (gflat gs ss).toArray).putObj D (.deferred none)).heap[r2]? = ((W.drew.setRow r2 (half6 p first k bg num (en)).toArray).setRow r3 (gflat gs ss).toArray).heap[r2]? from by simp [World.putObj, nD2], setRow_other _ _ _ _ n23]; exact setRow_heap _ _ _ _ _ _ h2
      have o3 : (((W.drew.setRow r2 (half6 p first k bg num (en)).toArray).setRow r3 (gflat gs ss).toArray).putObj D (.deferred none)).heap[r3]? = some (.cells (gflat gs ss).toArray 68 (0, 0)) := by
        rw [show (((W.drew.setRow r2 (half6 p first k bg num (en)).toArray).setRow r3 (gflat gs ss).toArray).putObj D (.deferred none)).heap[r3]? = ((W.drew.setRow r2 (half6 p first k bg num (en)).toArray).setRow r3 (gflat gs ss).toArray).heap[r3]? from by simp [World.putObj, nD3]]; exact setRow_heap _ _ _ _ _ _ m3
      have KV : Kp [hB, r2, r3, D] W (((W.drew.setRow r2 (half6 p first k bg num (en)).toArray).setRow r3 (gflat gs ss).toArray).putObj D (.deferred none)) := by
        have k1 : Kp [hB, r2, r3, D] W ((W.drew.setRow r2 (half6 p first k bg num (en)).toArray).setRow r3 (gflat gs ss).toArray) := ((Kp.refl _ _).drew.row _ _ (.inl (by simp))).row _ _ (.inl (by simp))
        exact ⟨k1.os, k1.tape, k1.output, by rw [show (((W.drew.setRow r2 (half6 p first k bg num (en)).toArray).setRow r3 (gflat gs ss).toArray).putObj D (.deferred none)).heap.size = ((W.drew.setRow r2 (half6 p first k bg num (en)).toArray).setRow r3 (gflat gs ss).toArray).heap.size from by simp [World.putObj]]; exact k1.size, fun x hx hn => by rw [show (((W.drew.setRow r2 (half6 p first k bg num (en)).toArray).setRow r3 (gflat gs ss).toArray).putObj D (.deferred none)).heap[x]? = ((W.drew.setRow r2 (half6 p first k bg num (en)).toArray).setRow r3 (gflat gs ss).toArray).heap[x]? from by simp [World.putObj, Ne.symm (fun e => hn (by simp [e]) : x ≠ D)]]; exact k1.block x hx hn⟩
      have KG : Kp [r2, r3, D] W (((W.drew.setRow r2 (half6 p first k bg num (en)).toArray).setRow r3 (gflat gs ss).toArray).putObj D (.deferred none)) := by
        have k1 : Kp [r2, r3, D] W ((W.drew.setRow r2 (half6 p first k bg num (en)).toArray).setRow r3 (gflat gs ss).toArray) := ((Kp.refl _ _).drew.row _ _ (.inl (by simp))).row _ _ (.inl (by simp))
        exact ⟨k1.os, k1.tape, k1.output, by rw [show (((W.drew.setRow r2 (half6 p first k bg num (en)).toArray).setRow r3 (gflat gs ss).toArray).putObj D (.deferred none)).heap.size = ((W.drew.setRow r2 (half6 p first k bg num (en)).toArray).setRow r3 (gflat gs ss).toArray).heap.size from by simp [World.putObj]]; exact k1.size, fun x hx hn => by rw [show (((W.drew.setRow r2 (half6 p first k bg num (en)).toArray).setRow r3 (gflat gs ss).toArray).putObj D (.deferred none)).heap[x]? = ((W.drew.setRow r2 (half6 p first k bg num (en)).toArray).setRow r3 (gflat gs ss).toArray).heap[x]? from by simp [World.putObj, Ne.symm (fun e => hn (by simp [e]) : x ≠ D)]]; exact k1.block x hx hn⟩
      have FIN : Hid (R (.returned (.tuple #[.agg (half6 p first k bg num (en)).toArray, .agg (gflat gs ss).toArray, .int .i64 0])) (((W.drew.setRow r2 (half6 p first k bg num (en)).toArray).setRow r3 (gflat gs ss).toArray).putObj D (.deferred none))) := by
        have hI3 : IsG (((W.drew.setRow r2 (half6 p first k bg num (en)).toArray).setRow r3 (gflat gs ss).toArray).putObj D (.deferred none)) S gs ss := by
          refine ⟨hIG.n1, hIG.n2, fun i g s h1 h2 => ?_⟩
          obtain ⟨r, l, bb⟩ := hIG.row i g s h1 h2
          refine ⟨r.kp' KG (fun hp bl' off e hm => ?_), l, fun hp bl' off e hm => bb hp bl' off e (by simp [hm])⟩
          simp only [List.mem_cons, List.not_mem_nil, or_false] at hm
          rcases hm with rfl | rfl | rfl
          · exact bb hp _ off e (by simp [nr2])
          · exact bb hp _ off e (by simp [nr3])
          · obtain ⟨b9, off9, e9, hc9⟩ := r.at_ hp
            rw [e] at e9; cases e9
            obtain ⟨C9, t9, f9, h9⟩ := block_of_cell (hc9 0 hp)
            rw [hD] at h9; cases h9
        have h9 := HR.out (((W.drew.setRow r2 (half6 p first k bg num (en)).toArray).setRow r3 (gflat gs ss).toArray).putObj D (.deferred none)) ss KV hI3
        rw [EO.out] at h9
        exact h9
      have L2 := load64 o2
      have L3 := load68 hIG.n1 hIG.n2 o3
      go_wp2_with fail
      refine wp_normal ?_
      refine wp_region_held_drew (S := fun z => z.heap[hB]? = some (.cells (half6 p first k bg num (en)).toArray 64 (0, 0)) ∧ GB z fB gs ss) (by kernel_rfl) (⟨hhalf, hGB⟩) (fun hHeld => ?_)
      refine wpAnyH_take (i := 0) (v := (.agg (half6 p first k bg num (en)).toArray)) rfl (by kernel_rfl) (by kernel_rfl) (by kernel_rfl) (fun _ _ _ h => h) (Or.inl ⟨by rfl, ?_⟩) (by assumption) ?_
      · intro w9 hSw
        try dsimp only at hSw
        exact ex_load 64 (.tmp 7) rfl _ _ rfl (load64 hSw.1)
      try simp only [Act.put, List.getElem_toArray, List.getElem_cons_succ, List.getElem_cons_zero, List.setIfInBounds_toArray, List.set_cons_zero, List.set_cons_succ]
      refine wpAnyH_take (i := 1) (v := (.agg (gflat gs ss).toArray)) rfl (by kernel_rfl) (by kernel_rfl) (by kernel_rfl) (fun _ _ _ h => h) (Or.inl ⟨by rfl, ?_⟩) (by assumption) ?_
      · intro w9 hSw
        try dsimp only at hSw
        exact ex_load 68 (.tmp 8) rfl _ _ rfl (load68 hIG.n1 hIG.n2 hSw.2)
      try simp only [Act.put, List.getElem_toArray, List.getElem_cons_succ, List.getElem_cons_zero, List.setIfInBounds_toArray, List.set_cons_zero, List.set_cons_succ]
      refine wpAnyH_ready (rs := [2]) (by kernel_rfl) (by simp) ?_
      refine AllReadyH.cons rfl (fun K' hK => ?_) AllReadyH.nil
      rw [if_pos (by rfl)]
      simp only [List.getElem_toArray, List.getElem_cons_succ, List.getElem_cons_zero]
      refine wp_store_by 64 (.tmp 2) (.tmp 63) rfl _ _ rfl rfl S1 ?_
      refine hK.out _ _ (⟨mh, mf⟩) (fun hHeld => ?_)
      clear hK K'
      try simp only [Act.put, List.getElem_toArray, List.getElem_cons_succ, List.getElem_cons_zero, List.setIfInBounds_toArray, List.set_cons_zero, List.set_cons_succ]
      refine wpAnyH_ready (rs := [3]) (by kernel_rfl) (by simp) ?_
      refine AllReadyH.cons rfl (fun K' hK => ?_) AllReadyH.nil
      rw [if_pos (by rfl)]
      simp only [List.getElem_toArray, List.getElem_cons_succ, List.getElem_cons_zero]
      refine wp_store_by 68 (.tmp 3) (.tmp 64) rfl _ _ rfl rfl S2 ?_
      refine hK.out _ _ (⟨mh2, mf2⟩) (fun hHeld => ?_)
      clear hK K'
      try simp only [Act.put, List.getElem_toArray, List.getElem_cons_succ, List.getElem_cons_zero, List.setIfInBounds_toArray, List.set_cons_zero, List.set_cons_succ]
      refine wpAnyH_take (i := 4) (v := (.int .i64 0)) rfl (by kernel_rfl) (by kernel_rfl) (by kernel_rfl) (fun _ _ _ h => h) (Or.inl ⟨by rfl, ?_⟩) (by assumption) ?_
      · intro w9 hSw
        try dsimp only at hSw
        go_simp
        all_goals try decide
        all_goals try assumption
        all_goals try omega
      try simp only [Act.put, List.getElem_toArray, List.getElem_cons_succ, List.getElem_cons_zero, List.setIfInBounds_toArray, List.set_cons_zero, List.set_cons_succ]
      refine wpAnyH_done (by kernel_rfl) ?_ _
      clear S1 S2 m3 mh mf mh2 mf2 o2 o3 KV KG
      go_wp2_with fail
      refine ⟨by simp, .inl ⟨_, _, rfl, run_takeDeferred md, ?_⟩⟩
      refine ⟨.tuple #[.agg (half6 p first k bg num (en)).toArray, .agg (gflat gs ss).toArray, .int .i64 0], ?_, FIN.out⟩
      simp [results, Try.results33, asAddr, L2, L3]
    · have BF : blank (b.drop en) = false := by simpa using BL
      rw [BF] at CT
      have EO : Hid (endOf b en = 1024 * k) := by show endOf b en = _; unfold endOf; rw [if_neg BL, hz]; exact HLK.out
      have c0 : W.cell? ⟨hB, 0, none⟩ = some (.pointer (some ⟨p, 0, none⟩)) := by rw [cell_of_row W _ _ _ _ _ hhalf]; rfl
      have c1 : W.cell? ⟨hB, 1, none⟩ = some (.int .i64 (first : Int)) := by rw [cell_of_row W _ _ _ _ _ hhalf]; rfl
      have c2 : W.cell? ⟨hB, 2, none⟩ = some (.int .i64 (k : Int)) := by rw [cell_of_row W _ _ _ _ _ hhalf]; rfl
      have SZ := size_any (.pointer (some ⟨p, 0, none⟩)) (first : Int) k (by omega) W
      clear BL BF hro hR1
      go_wp2_with fail
      with_reducible refine CT.mono ?_
      rintro e W ⟨rfl, rfl⟩
      clear CT
      go_wp2_with fail
      with_reducible refine SZ.mono ?_
      rintro e V ⟨rfl, hbV⟩
      clear SZ
      have hhV := (hbV.block hB (lt_of_heap hhalf)).trans hhalf
      have c5V : V.cell? ⟨hB, 5, none⟩ = some (.int .i64 (en : Int)) := by rw [cell_of_row V _ _ _ _ _ hhV]; rfl
      have f5V := frozen_of_row V hB 5 _ _ hhV
      have K5 : Kp [hB] V (V.setCell ⟨hB, 5, none⟩ (.int .i64 (1024 * (k : Int)))) := (Kp.refl _ _).set _ _ (.inl (by simp))
      have hh5 : (V.setCell ⟨hB, 5, none⟩ (.int .i64 (1024 * (k : Int)))).heap[hB]? = some (.cells (half6 p first k bg num (1024 * k)).toArray 64 (0, 0)) := by
        rw [heap_setCell_same V hB 5 _ _ _ hhV, show (1024 * (k : Int)) = ((1024 * k : Nat) : Int) from by omega]; rfl
      have gg5 : GB (V.setCell ⟨hB, 5, none⟩ (.int .i64 (1024 * (k : Int)))) fB gs ss := (K5.block fB (by have := lt_of_heap hGB; have := hbV.size; omega) (by simpa using Ne.symm nhf)).trans ((hbV.block fB (lt_of_heap hGB)).trans hGB)
      have ii5 := (hIG.next hbV).kp K5 (by simp)
      have dd5 : (V.setCell ⟨hB, 5, none⟩ (.int .i64 (1024 * (k : Int)))).heap[D]? = some (.deferred (some [])) := (K5.block D (by have := lt_of_heap hD; have := hbV.size; omega) (by simpa using nDh)).trans ((hbV.block D (lt_of_heap hD)).trans hD)
      have q25 : (V.setCell ⟨hB, 5, none⟩ (.int .i64 (1024 * (k : Int)))).heap[r2]? = _ := (K5.block r2 (by have := lt_of_heap h2; have := hbV.size; omega) (by simpa using n2h)).trans ((hbV.block r2 (lt_of_heap h2)).trans h2)
      have q35 : (V.setCell ⟨hB, 5, none⟩ (.int .i64 (1024 * (k : Int)))).heap[r3]? = _ := (K5.block r3 (by have := lt_of_heap h3; have := hbV.size; omega) (by simpa using n3h)).trans ((hbV.block r3 (lt_of_heap h3)).trans h3)
      have kk5 : Kp [hB, r2, r3, D] W (V.setCell ⟨hB, 5, none⟩ (.int .i64 (1024 * (k : Int)))) := (Kp.of hbV).trans (K5.more (by simp))
      clear hhV hbV
      go_wp2_with fail
      generalize V.setCell ⟨hB, 5, none⟩ (.int .i64 (1024 * (k : Int))) = U at *
      have S1 := store64 (W := U.drew) (p := p) (first := first) (k := k) (bg := bg) (num := num) (en := 1024 * k) (C := #[.pointer none, .int .i64 0, .int .i64 0, .bool false, .int .u8 0, .int .i64 0]) rfl q25
      have m3 : (U.drew.setRow r2 (half6 p first k bg num (1024 * k)).toArray).heap[r3]? = some (.cells z48 68 (0, 0)) := by rw [setRow_other _ _ _ _ (Ne.symm n23)]; exact q35
      have S2 := store68 (W := (U.drew.setRow r2 (half6 p first k bg num (1024 * k)).toArray)) (C := z48) rfl m3 gs ss ii5.n1 ii5.n2
      have mh : (U.drew.setRow r2 (half6 p first k bg num (1024 * k)).toArray).heap[hB]? = some (.cells (half6 p first k bg num (1024 * k)).toArray 64 (0, 0)) := by rw [setRow_other _ _ _ _ (Ne.symm n2h)]; exact hh5
      have mf : GB (U.drew.setRow r2 (half6 p first k bg num (1024 * k)).toArray) fB gs ss := by show _ = _; rw [setRow_other _ _ _ _ (Ne.symm n2f)]; exact gg5
      have mh2 : ((U.drew.setRow r2 (half6 p first k bg num (1024 * k)).toArray).setRow r3 (gflat gs ss).toArray).heap[hB]? = some (.cells (half6 p first k bg num (1024 * k)).toArray 64 (0, 0)) := by rw [setRow_other _ _ _ _ (Ne.symm n3h)]; exact mh
      have mf2 : GB ((U.drew.setRow r2 (half6 p first k bg num (1024 * k)).toArray).setRow r3 (gflat gs ss).toArray) fB gs ss := by show _ = _; rw [setRow_other _ _ _ _ (Ne.symm n3f)]; exact mf
      have md : ((U.drew.setRow r2 (half6 p first k bg num (1024 * k)).toArray).setRow r3 (gflat gs ss).toArray).heap[D]? = some (.deferred (some [])) := by rw [setRow_other _ _ _ _ nD3, setRow_other _ _ _ _ nD2]; exact dd5
      have o2 : (((U.drew.setRow r2 (half6 p first k bg num (1024 * k)).toArray).setRow r3 (gflat gs ss).toArray).putObj D (.deferred none)).heap[r2]? = some (.cells (half6 p first k bg num (1024 * k)).toArray 64 (0, 0)) := by
        rw [show (((U.drew.setRow r2 (half6 p first k bg num (1024 * k)).toArray).setRow r3 (gflat gs ss).toArray).putObj D (.deferred none)).heap[r2]? = ((U.drew.setRow r2 (half6 p first k bg num (1024 * k)).toArray).setRow r3 (gflat gs ss).toArray).heap[r2]? from by simp [World.putObj, nD2], setRow_other _ _ _ _ n23]; exact setRow_heap _ _ _ _ _ _ q25
      have o3 : (((U.drew.setRow r2 (half6 p first k bg num (1024 * k)).toArray).setRow r3 (gflat gs ss).toArray).putObj D (.deferred none)).heap[r3]? = some (.cells (gflat gs ss).toArray 68 (0, 0)) := by
        rw [show (((U.drew.setRow r2 (half6 p first k bg num (1024 * k)).toArray).setRow r3 (gflat gs ss).toArray).putObj D (.deferred none)).heap[r3]? = ((U.drew.setRow r2 (half6 p first k bg num (1024 * k)).toArray).setRow r3 (gflat gs ss).toArray).heap[r3]? from by simp [World.putObj, nD3]]; exact setRow_heap _ _ _ _ _ _ m3
      have KV : Kp [hB, r2, r3, D] W (((U.drew.setRow r2 (half6 p first k bg num (1024 * k)).toArray).setRow r3 (gflat gs ss).toArray).putObj D (.deferred none)) := by
        have k1 : Kp [hB, r2, r3, D] W ((U.drew.setRow r2 (half6 p first k bg num (1024 * k)).toArray).setRow r3 (gflat gs ss).toArray) := ((kk5).drew.row _ _ (.inl (by simp))).row _ _ (.inl (by simp))
        exact ⟨k1.os, k1.tape, k1.output, by rw [show (((U.drew.setRow r2 (half6 p first k bg num (1024 * k)).toArray).setRow r3 (gflat gs ss).toArray).putObj D (.deferred none)).heap.size = ((U.drew.setRow r2 (half6 p first k bg num (1024 * k)).toArray).setRow r3 (gflat gs ss).toArray).heap.size from by simp [World.putObj]]; exact k1.size, fun x hx hn => by rw [show (((U.drew.setRow r2 (half6 p first k bg num (1024 * k)).toArray).setRow r3 (gflat gs ss).toArray).putObj D (.deferred none)).heap[x]? = ((U.drew.setRow r2 (half6 p first k bg num (1024 * k)).toArray).setRow r3 (gflat gs ss).toArray).heap[x]? from by simp [World.putObj, Ne.symm (fun e => hn (by simp [e]) : x ≠ D)]]; exact k1.block x hx hn⟩
      have KG : Kp [r2, r3, D] U (((U.drew.setRow r2 (half6 p first k bg num (1024 * k)).toArray).setRow r3 (gflat gs ss).toArray).putObj D (.deferred none)) := by
        have k1 : Kp [r2, r3, D] U ((U.drew.setRow r2 (half6 p first k bg num (1024 * k)).toArray).setRow r3 (gflat gs ss).toArray) := ((Kp.refl _ _).drew.row _ _ (.inl (by simp))).row _ _ (.inl (by simp))
        exact ⟨k1.os, k1.tape, k1.output, by rw [show (((U.drew.setRow r2 (half6 p first k bg num (1024 * k)).toArray).setRow r3 (gflat gs ss).toArray).putObj D (.deferred none)).heap.size = ((U.drew.setRow r2 (half6 p first k bg num (1024 * k)).toArray).setRow r3 (gflat gs ss).toArray).heap.size from by simp [World.putObj]]; exact k1.size, fun x hx hn => by rw [show (((U.drew.setRow r2 (half6 p first k bg num (1024 * k)).toArray).setRow r3 (gflat gs ss).toArray).putObj D (.deferred none)).heap[x]? = ((U.drew.setRow r2 (half6 p first k bg num (1024 * k)).toArray).setRow r3 (gflat gs ss).toArray).heap[x]? from by simp [World.putObj, Ne.symm (fun e => hn (by simp [e]) : x ≠ D)]]; exact k1.block x hx hn⟩
      have FIN : Hid (R (.returned (.tuple #[.agg (half6 p first k bg num (1024 * k)).toArray, .agg (gflat gs ss).toArray, .int .i64 0])) (((U.drew.setRow r2 (half6 p first k bg num (1024 * k)).toArray).setRow r3 (gflat gs ss).toArray).putObj D (.deferred none))) := by
        have hI3 : IsG (((U.drew.setRow r2 (half6 p first k bg num (1024 * k)).toArray).setRow r3 (gflat gs ss).toArray).putObj D (.deferred none)) S gs ss := by
          refine ⟨ii5.n1, ii5.n2, fun i g s h1 h2 => ?_⟩
          obtain ⟨r, l, bb⟩ := ii5.row i g s h1 h2
          refine ⟨r.kp' KG (fun hp bl' off e hm => ?_), l, fun hp bl' off e hm => bb hp bl' off e (by simp [hm])⟩
          simp only [List.mem_cons, List.not_mem_nil, or_false] at hm
          rcases hm with rfl | rfl | rfl
          · exact bb hp _ off e (by simp [nr2])
          · exact bb hp _ off e (by simp [nr3])
          · obtain ⟨b9, off9, e9, hc9⟩ := r.at_ hp
            rw [e] at e9; cases e9
            obtain ⟨C9, t9, f9, h9⟩ := block_of_cell (hc9 0 hp)
            rw [dd5] at h9; cases h9
        have h9 := HR.out (((U.drew.setRow r2 (half6 p first k bg num (1024 * k)).toArray).setRow r3 (gflat gs ss).toArray).putObj D (.deferred none)) ss KV hI3
        rw [EO.out] at h9
        exact h9
      have L2 := load64 o2
      have L3 := load68 ii5.n1 ii5.n2 o3
      go_wp2_with fail
      refine wp_normal ?_
      refine wp_region_held_drew (S := fun z => z.heap[hB]? = some (.cells (half6 p first k bg num (1024 * k)).toArray 64 (0, 0)) ∧ GB z fB gs ss) (by kernel_rfl) (⟨hh5, gg5⟩) (fun hHeld => ?_)
      refine wpAnyH_take (i := 0) (v := (.agg (half6 p first k bg num (1024 * k)).toArray)) rfl (by kernel_rfl) (by kernel_rfl) (by kernel_rfl) (fun _ _ _ h => h) (Or.inl ⟨by rfl, ?_⟩) (by assumption) ?_
      · intro w9 hSw
        try dsimp only at hSw
        exact ex_load 64 (.tmp 7) rfl _ _ rfl (load64 hSw.1)
      try simp only [Act.put, List.getElem_toArray, List.getElem_cons_succ, List.getElem_cons_zero, List.setIfInBounds_toArray, List.set_cons_zero, List.set_cons_succ]
      refine wpAnyH_take (i := 1) (v := (.agg (gflat gs ss).toArray)) rfl (by kernel_rfl) (by kernel_rfl) (by kernel_rfl) (fun _ _ _ h => h) (Or.inl ⟨by rfl, ?_⟩) (by assumption) ?_
      · intro w9 hSw
        try dsimp only at hSw
        exact ex_load 68 (.tmp 8) rfl _ _ rfl (load68 ii5.n1 ii5.n2 hSw.2)
      try simp only [Act.put, List.getElem_toArray, List.getElem_cons_succ, List.getElem_cons_zero, List.setIfInBounds_toArray, List.set_cons_zero, List.set_cons_succ]
      refine wpAnyH_ready (rs := [2]) (by kernel_rfl) (by simp) ?_
      refine AllReadyH.cons rfl (fun K' hK => ?_) AllReadyH.nil
      rw [if_pos (by rfl)]
      simp only [List.getElem_toArray, List.getElem_cons_succ, List.getElem_cons_zero]
      refine wp_store_by 64 (.tmp 2) (.tmp 63) rfl _ _ rfl rfl S1 ?_
      refine hK.out _ _ (⟨mh, mf⟩) (fun hHeld => ?_)
      clear hK K'
      try simp only [Act.put, List.getElem_toArray, List.getElem_cons_succ, List.getElem_cons_zero, List.setIfInBounds_toArray, List.set_cons_zero, List.set_cons_succ]
      refine wpAnyH_ready (rs := [3]) (by kernel_rfl) (by simp) ?_
      refine AllReadyH.cons rfl (fun K' hK => ?_) AllReadyH.nil
      rw [if_pos (by rfl)]
      simp only [List.getElem_toArray, List.getElem_cons_succ, List.getElem_cons_zero]
      refine wp_store_by 68 (.tmp 3) (.tmp 64) rfl _ _ rfl rfl S2 ?_
      refine hK.out _ _ (⟨mh2, mf2⟩) (fun hHeld => ?_)
      clear hK K'
      try simp only [Act.put, List.getElem_toArray, List.getElem_cons_succ, List.getElem_cons_zero, List.setIfInBounds_toArray, List.set_cons_zero, List.set_cons_succ]
      refine wpAnyH_take (i := 4) (v := (.int .i64 0)) rfl (by kernel_rfl) (by kernel_rfl) (by kernel_rfl) (fun _ _ _ h => h) (Or.inl ⟨by rfl, ?_⟩) (by assumption) ?_
      · intro w9 hSw
        try dsimp only at hSw
        go_simp
        all_goals try decide
        all_goals try assumption
        all_goals try omega
      try simp only [Act.put, List.getElem_toArray, List.getElem_cons_succ, List.getElem_cons_zero, List.setIfInBounds_toArray, List.set_cons_zero, List.set_cons_succ]
      refine wpAnyH_done (by kernel_rfl) ?_ _
      clear S1 S2 m3 mh mf mh2 mf2 o2 o3 KV KG
      go_wp2_with fail
      refine ⟨by simp, .inl ⟨_, _, rfl, run_takeDeferred md, ?_⟩⟩
      refine ⟨.tuple #[.agg (half6 p first k bg num (1024 * k)).toArray, .agg (gflat gs ss).toArray, .int .i64 0], ?_, FIN.out⟩
      simp [results, Try.results33, asAddr, L2, L3]
#print axioms lk_after
end Go.Proofs.Ytgpbmccjcjoijaa
