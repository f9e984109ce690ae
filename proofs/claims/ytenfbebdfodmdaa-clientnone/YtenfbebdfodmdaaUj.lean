/-
  An answer that ends a transfer is heard.
-/
import Derived.Test.YtenfbebdfodmdaaUi
import Derived.Test.YtenfbebdfodmdaaTk9
namespace Go.Proofs.Ytenfbebdfodmdaa
open Go.RowKit

theorem ta_none (w : World) : (Instr.typeAssert .nilIface 20 30 true).run Try.prog w = .ok (.tuple #[.int .u32 0, .bool false]) w := by kernel_rfl
set_option linter.unusedSimpArgs false in
set_option maxHeartbeats 4000000 in
set_option maxRecDepth 100000 in
theorem idle11 (p q : Addr) (w : World) :
    CallsD Try.prog 18 #[.pointer (some p), .pointer (some q)] .returning w fun e u' w' => e = .returned (.tuple #[]) ∧ u' = .returning ∧ w' = w := by
  refine callsD_of_wpS Try.func18 rfl fun c₀ cs hu => ?_
  apply wpS_seq
  apply wpS_region
  simp [wpOpsS, go_sem, recoverD, hu, Try.ntmps18, Exit.thenS, ta_none]
  apply wpS_seq
  apply wpS_region
  simp [wpOpsS, go_sem, Exit.thenS]
  refine wpS_cond (t := false) (by simp [Act.eval, Array.replicate]) ?_
  simp only [Bool.false_eq_true, if_false]
  refine wpS_of_wp (wp_skip ?_)
  cases c₀
  simp_all [bodyPostS, results, Try.results18]
theorem store_int (t : TypeId) (ht : (Try.prog.info? t).map (·.size) = some 1) (w : World) (B j : Nat) (k : IntKind) (x : Int) (C : Array Value) (T : TypeId) (h : w.heap[B]? = some (.cells C T (0, 0))) (hj : j < C.size) : (storeVar t ⟨B, j, none⟩ (.int k x)).run Try.prog w = .ok () (w.setRow B (C.setIfInBounds j (.int k x))) := by
  cases hq : Try.prog.info? t with
  | none => simp [hq] at ht
  | some i =>
    have hi : i.size = 1 := by simpa [hq] using ht
    have e1 : (C.toList.take j ++ [Value.int k x] ++ C.toList.drop (j + 1)).toArray = C.setIfInBounds j (.int k x) := by
      apply Array.toList_inj.1
      simp [List.set_eq_take_append_cons_drop, hj]
    rw [← e1]
    have := run_storeCells_at Try.prog B j T [.int k x] 0 C w h (by simp; omega) (by simp [Value.oneCell'])
    simpa [storeVar, Value.cells, sizeOf, typeInfo, hq, hi, Result.andThen] using this
theorem wp_normal {c : Code} {Q : Exit → Act → World → Prop} {a : Act} {w : World} (h : Code.wp Try.prog c (fun e a' w' => match e with | .normal => Q .normal a' w' | _ => False) a w) : Code.wp Try.prog c Q a w :=
  Go.wp_mono h (fun e a' w' h' => by cases e <;> first | exact h' | exact h'.elim)
theorem sizeI64 : (Try.prog.info? 2).map (·.size) = some 1 := by kernel_rfl
theorem load9_g {ops : Array Oper} {rest : List Oper} {o : Oper} {a : Act} {w : World} {Q : Exit → Act → World → Prop} (ty : TypeId) (x : Operand) (ho : o.op = .load ty x)
    (ad : Addr) (v : Value) (hx : a.eval x = .pointer (some ad)) (hr : (loadVar ty ad).run Try.prog w = .ok v w)
    (h : wpList Try.prog ops Q rest (a.put o.dst v) w) (hw : Region.wanted o (yielded ops a.tmps) = true := by rfl) : wpList Try.prog ops Q (o :: rest) a w :=
  wpList_step fun _ hK => by rw [if_pos hw]; exact wp_load_by ty x ho ad v hx hr (hK _ _ h)

set_option linter.unusedSimpArgs false in
set_option maxHeartbeats 4000000 in
set_option maxRecDepth 100000 in
theorem hear_1 (p T : Nat) (A wt : Int) (rp : Option Addr) (i s : Int) (last : Int) (tg ck : Bool) (a : Option Addr) (len cap : Nat) (sz : Bool) (size next dn asked : Int) (b0 b1 b2 b3 b4 b5 b6 b7 now : Int) (w : World) (hp : w.heap[p]? = some (.cells (clC A wt (some ⟨T, 0, none⟩) rp) 60 (0, 0))) (hT : w.heap[T]? = some (.cells (trC i s true true last 1 tg ck a len cap sz size next dn asked) 65 (0, 0))) (hne : p ≠ T) (hA0 : 0 ≤ A) (hA : A ≤ 127) (ho : Oct [b0, b1, b2, b3, b4, b5, b6, b7])
    (HAn : Hid (∀ W, Calls Try.prog 31 #[arr8 b0 b1 b2 b3 b4 b5 b6 b7] W (fun e w' => ∃ a2 cap2, e = .returned (.tuple #[cmV 1 i s false 0 false a2 0 cap2 false false false 0 0 0 0 0, .int .i64 0]) ∧ Below W.heap.size W w'))) :
    Calls Try.prog 7 #[.pointer (some ⟨p, 0, none⟩), frV (1408 + A) 8 b0 b1 b2 b3 b4 b5 b6 b7 false, .int .i64 now] w (EndPost [p, T] w p A wt i s true none 0 0 0) := by
  have hmf : ∀ (fn : Fn) (first cap : Array Value) (w : World), (Instr.makeFunc fn first cap).run Try.prog w = .ok (.func fn first cap) w := fun _ _ _ _ => rfl
  have HP : Hid (w.heap[p]? = some (.cells (clC A wt (some ⟨T, 0, none⟩) rp) 60 (0, 0))) := hp
  have HT : Hid (w.heap[T]? = some (.cells (trC i s true true last 1 tg ck a len cap sz size next dn asked) 65 (0, 0))) := hT
  have lp : p < w.heap.size := lt_of_heap hp
  have lT : T < w.heap.size := lt_of_heap hT
  have HM : Hid (∀ W, W.heap[p]? = some (.cells (clC A wt (some ⟨T, 0, none⟩) rp) 60 (0, 0)) → Calls Try.prog 17 #[.pointer (some ⟨p, 0, none⟩), frV (1408 + A) 8 b0 b1 b2 b3 b4 b5 b6 b7 false] W fun e w' => e = .returned (.bool true) ∧ Below W.heap.size W w') := fun W h => isMeant_yes p A wt _ rp b0 b1 b2 b3 b4 b5 b6 b7 W h hA0 hA ho
  clear hp hT ho
  go_enter_defers Try.func7, Try.ntmps7
  go_wp2_with fail
  with_reducible refine (busy_on p T A wt rp _ (ext11 (ext11 (ext11 HP.out)))).mono ?_
  rintro r w9 ⟨rfl, rfl⟩
  go_wp2_with (refine load9_g 25 _ rfl ⟨w.heap.size + 1, 0, none⟩ _ rfl (loadF _ _ (1408 + A) 8 b0 b1 b2 b3 b4 b5 b6 b7 false _ (ext11 (at11 _ _ _ (by simp)))) ?_)
  with_reducible refine (HM.out _ (ext11 (ext11 (ext11 HP.out)))).mono ?_
  rintro r w1 ⟨rfl, hb⟩
  have B1 : Hid (Below w.heap.size w w1) := Below.andThen (by repeat (first | exact Below.refl _ _ | apply Below.drew | apply Below.al)) hb
  have HP1 : Hid _ := blk11 B1.out HP.out
  have HT1 : Hid _ := blk11 B1.out HT.out
  have BX1 : Hid (w1.heap[w.heap.size]? = some (.cells #[.pointer (some ⟨p, 0, none⟩)] 33 (0, 0))) := blk11 hb (ext11 (ext11 (at11 _ _ _ rfl)))
  have FX1 : Hid (w1.heap[w.heap.size + 1]? = some (.cells (frC (1408 + A) 8 b0 b1 b2 b3 b4 b5 b6 b7 false) 25 (0, 0))) := blk11 hb (ext11 (at11 _ _ _ (by simp)))
  have RX1 : Hid (w1.heap[w.heap.size + 1 + 1]? = some (.cells #[.slice none 0 0] 34 (0, 0))) := blk11 hb (at11 _ _ _ (by simp))
  have LR1 : Hid (w.heap.size + 1 + 1 < w1.heap.size) := lt_of_heap RX1.out
  clear hb
  go_wp2_with fail
  refine wp_normal ?_
  refine wp_region_held_drew (S := fun x => Kp [T] w1 x) (by kernel_rfl) (Kp.drew (Kp.refl _ _)) (fun hHeld => ?_)
  refine tk 0 (.pointer (some ⟨p, 0, none⟩)) rfl (.inl ⟨by rfl, ?_⟩) ?_
  · intro w9 hSw
    try dsimp only at hSw
    have c0 : w9.cell? ⟨w.heap.size, 0, none⟩ = some (.pointer (some ⟨p, 0, none⟩)) := by rw [cell_of_row _ _ 0 _ _ _ (Kp.at hSw (by simp; omega) BX1.out)]; rfl
    go_simp
    all_goals try assumption
  try simp only [Act.put, gA, gS, gZ, sA, sZ, sS]
  refine tk 1 (.pointer (some ⟨p, 0, none⟩)) rfl (.inl ⟨by rfl, ?_⟩) ?_
  · intro w9 hSw
    try dsimp only at hSw
    go_simp
    all_goals try decide
    all_goals try assumption
    all_goals try omega
  try simp only [Act.put, gA, gS, gZ, sA, sZ, sS]
  refine tk 2 (.pointer (some ⟨p, 2, none⟩)) rfl (.inl ⟨by rfl, ?_⟩) ?_
  · intro w9 hSw
    try dsimp only at hSw
    go_simp
    all_goals try decide
    all_goals try assumption
    all_goals try omega
  try simp only [Act.put, gA, gS, gZ, sA, sZ, sS]
  refine tk 3 (.pointer (some ⟨T, 0, none⟩)) rfl (.inl ⟨by rfl, ?_⟩) ?_
  · intro w9 hSw
    try dsimp only at hSw
    have c0 : w9.cell? ⟨p, 2, none⟩ = some (.pointer (some ⟨T, 0, none⟩)) := by rw [cell_of_row _ _ 2 _ _ _ (Kp.at hSw (by simpa using hne) HP1.out)]; rfl
    go_simp
    all_goals try assumption
  try simp only [Act.put, gA, gS, gZ, sA, sZ, sS]
  refine tk 4 (.int .i64 now) rfl (.inl ⟨by rfl, ?_⟩) ?_
  · intro w9 hSw
    try dsimp only at hSw
    go_simp
    all_goals try decide
    all_goals try assumption
    all_goals try omega
  try simp only [Act.put, gA, gS, gZ, sA, sZ, sS]
  refine wpAnyH_ready (rs := [5]) (by kernel_rfl) (by simp) ?_
  refine AllReadyH.cons rfl (fun K' hK => ?_) AllReadyH.nil
  rw [if_pos (by rfl)]
  simp only [gA, gS, gZ]
  go_wp2_with fail
  refine (timeOf_any now _).mono ?_
  rintro e z ⟨rfl, rfl⟩
  try go_wp2_with fail
  refine hK.out _ _ (hHeld) (fun hHeld => ?_)
  clear hK K'
  try simp only [Act.put, gA, gS, gZ, sA, sZ, sS]
  refine tk 6 (.pointer (some ⟨T, 0, none⟩)) rfl (.inl ⟨by rfl, ?_⟩) ?_
  · intro w9 hSw
    try dsimp only at hSw
    go_simp
    all_goals try decide
    all_goals try assumption
    all_goals try omega
  try simp only [Act.put, gA, gS, gZ, sA, sZ, sS]
  refine tk 7 (.pointer (some ⟨T, 4, none⟩)) rfl (.inl ⟨by rfl, ?_⟩) ?_
  · intro w9 hSw
    try dsimp only at hSw
    go_simp
    all_goals try decide
    all_goals try assumption
    all_goals try omega
  try simp only [Act.put, gA, gS, gZ, sA, sZ, sS]
  refine wpAnyH_ready (rs := [8]) (by kernel_rfl) (by simp) ?_
  refine AllReadyH.cons rfl (fun K' hK => ?_) AllReadyH.nil
  rw [if_pos (by rfl)]
  simp only [gA, gS, gZ]
  refine wp_store_by 2 _ _ rfl ⟨T, 4, none⟩ _ rfl rfl (store_int _ sizeI64 _ T 4 .i64 (tmN now) _ _ HT1.out (by simp)) ?_
  refine hK.out _ _ (Kp.row hHeld _ _ (.inl (by simp))) (fun hHeld => ?_)
  clear hK K'
  try simp only [Act.put, gA, gS, gZ, sA, sZ, sS]
  refine wpAnyH_done (by kernel_rfl) ?_ _
  obtain ⟨W2, HW2⟩ : ∃ W2, Hid (w1.drew.setRow T (trC i s true true (tmN now) 1 tg ck a len cap sz size next dn asked) = W2) := ⟨_, rfl⟩
  have K12 : Hid (Kp [T] w1 W2) := by show Kp _ _ _; rw [← HW2.out]; exact Kp.row (Kp.drew (Kp.refl _ _)) _ _ (.inl (by simp))
  have HT2 : Hid (W2.heap[T]? = some (.cells (trC i s true true (tmN now) 1 tg ck a len cap sz size next dn asked) 65 (0, 0))) := by show _ = _; rw [← HW2.out]; exact setRow_heap _ _ _ _ _ _ HT1.out
  have HP2 : Hid (W2.heap[p]? = some (.cells (clC A wt (some ⟨T, 0, none⟩) rp) 60 (0, 0))) := K12.out.at (by simpa using hne) HP1.out
  have BX2 : W2.cell? ⟨w.heap.size, 0, none⟩ = some (.pointer (some ⟨p, 0, none⟩)) := by rw [cell_of_row _ _ 0 _ _ _ (K12.out.at (by simp; omega) BX1.out)]; rfl
  have FX2 : Hid (W2.heap[w.heap.size + 1]? = some (.cells (frC (1408 + A) 8 b0 b1 b2 b3 b4 b5 b6 b7 false) 25 (0, 0))) := K12.out.at (by simp; omega) FX1.out
  have RX2 : Hid (W2.heap[w.heap.size + 1 + 1]? = some (.cells #[.slice none 0 0] 34 (0, 0))) := K12.out.at (by simp; omega) RX1.out
  have HS12 : Hid (w1.heap.size ≤ W2.heap.size) := K12.out.size
  have HAn2 : Hid (∀ W, Below W2.heap.size W2 W → Calls Try.prog 31 #[arr8 b0 b1 b2 b3 b4 b5 b6 b7] W (fun e w' => ∃ a2 cap2, e = .returned (.tuple #[cmV 1 i s false 0 false a2 0 cap2 false false false 0 0 0 0 0, .int .i64 0]) ∧ Below W.heap.size W w')) := fun W _ => HAn.out W
  rw [show w1.drew.setRow T _ = W2 from HW2.out]
  clear hHeld HW2
  go_wp2_with (refine wpList_load_by rfl 23 _ rfl ⟨w.heap.size + 1, 2, none⟩ (arr8 b0 b1 b2 b3 b4 b5 b6 b7) rfl (load_part 23 8 size8 agg8 _ (w.heap.size + 1) 2 [.int .u16 (1408 + A), .int .i64 8, .int .u8 b0, .int .u8 b1, .int .u8 b2, .int .u8 b3, .int .u8 b4, .int .u8 b5, .int .u8 b6, .int .u8 b7, .bool false] _ FX2.out (by simp)) ?_)
  with_reducible refine (follow_1 p T A wt rp i s (tmN now) tg ck a len cap sz size next dn asked b0 b1 b2 b3 b4 b5 b6 b7 W2 HP2.out HT2.out hne HAn2).mono ?_
  rintro r w3 ⟨g, rfl, hg1, hg2, hg3, hg4⟩
  have H4 : Hid _ := hg4
  have H3 : Hid _ := hg3
  have H2 : Hid _ := hg2
  have HG1 : Hid _ := hg1
  clear hg1 hg2 hg3 hg4 BX2
  have RX3 : w3.heap[w.heap.size + 1 + 1]? = some (.cells #[.slice none 0 0] 34 (0, 0)) := H2.out.at (by simp; omega) RX2.out
  have q0 : w3.cell? ⟨w.heap.size + 1 + 1, 0, none⟩ = some (.slice none 0 0) := by rw [cell_of_row _ _ 0 _ _ _ RX3]; rfl
  have z0 : w3.frozen? ⟨w.heap.size + 1 + 1, 0, none⟩ = false := froz11 _ _ 0 _ _ RX3
  have R3 : Hid _ := RX3
  clear RX3
  go_wp2_with fail
  refine leaves_cons (f := 18) (args := #[.pointer (some ⟨w.heap.size, 0, none⟩), .pointer (some ⟨w.heap.size + 1 + 1, 0, none⟩)]) (by simp) (by simp [go_sem]) ?_
  refine (idle11 _ _ _).mono ?_
  rintro e u' w'' ⟨rfl, rfl, rfl⟩
  obtain ⟨W4, HW4⟩ : ∃ W4, Hid (w3.setCell ⟨w.heap.size + 1 + 1, 0, none⟩ (.slice none 0 0) = W4) := ⟨_, rfl⟩
  have q4 : W4.cell? ⟨w.heap.size + 1 + 1, 0, none⟩ = some (.slice none 0 0) := by rw [← HW4.out]; exact World.cell?_setCell_same _ _ _ q0
  have K4 : Hid (Kp [p, T] w W4) := by
    show Kp _ _ _
    rw [← HW4.out]
    exact Kp.set ((Kp.of B1.out).trans ((K12.out.more (by simp)).trans H2.out)) _ _ (.inr (by show w.heap.size ≤ w.heap.size + 1 + 1; omega))
  have P4 : Hid (W4.heap[p]? = some (.cells (clC A wt none (some ⟨g, 0, none⟩)) 60 (0, 0))) := by show _ = _; rw [← HW4.out]; exact (heap_setCell_other _ _ _ _ (by show p ≠ w.heap.size + 1 + 1; omega)).trans H3.out
  have G4 : Hid _ := (heap_setCell_other w3 ⟨w.heap.size + 1 + 1, 0, none⟩ g (.slice none 0 0) (by show g ≠ w.heap.size + 1 + 1; have := HG1.out; have := HS12.out; have := LR1.out; omega)).trans H4.out
  rw [show w3.setCell ⟨w.heap.size + 1 + 1, 0, none⟩ (.slice none 0 0) = W4 from HW4.out] at G4
  have HGS : Hid (w.heap.size ≤ g) := by show _ ≤ _; have := HG1.out; have := HS12.out; have := LR1.out; omega
  rw [HW4.out]
  simp only [Leaves, settle]
  refine ⟨.slice none 0 0, by simp [results, Try.results7, go_sem, q4], ?_⟩
  exact ⟨g, rfl, HGS.out, K4.out, P4.out, G4.out⟩

set_option linter.unusedSimpArgs false in
set_option maxHeartbeats 4000000 in
set_option maxRecDepth 100000 in
theorem hear_3 (p T : Nat) (A wt : Int) (rp : Option Addr) (i s : Int) (q : Bool) (last : Int) (tg ck : Bool) (a : Option Addr) (len cap : Nat) (sz : Bool) (size next dn asked : Int) (len2 : Nat) (zs : List Int) (b0 b1 b2 b3 b4 b5 b6 b7 now : Int) (w : World) (hp : w.heap[p]? = some (.cells (clC A wt (some ⟨T, 0, none⟩) rp) 60 (0, 0))) (hT : w.heap[T]? = some (.cells (trC i s false q last 3 tg ck a len cap sz size next dn asked) 65 (0, 0))) (hne : p ≠ T) (hA0 : 0 ≤ A) (hA : A ≤ 127) (ho : Oct [b0, b1, b2, b3, b4, b5, b6, b7])
    (HAn : Hid (∀ W, Calls Try.prog 31 #[arr8 b0 b1 b2 b3 b4 b5 b6 b7] W (fun e w' => ∃ a2 cap2, e = .returned (.tuple #[cmV 3 i s true 0 true a2 len2 cap2 false false false 0 0 0 0 0, .int .i64 0]) ∧ Told W w' a2 len2 cap2 zs ∧ Below W.heap.size W w'))) :
    Calls Try.prog 7 #[.pointer (some ⟨p, 0, none⟩), frV (1408 + A) 8 b0 b1 b2 b3 b4 b5 b6 b7 false, .int .i64 now] w (fun e w' => ∃ a2 cap2, EndPost [p, T] w p A wt i s false a2 len2 cap2 0 e w' ∧ Told w w' a2 len2 cap2 zs) := by
  have hmf : ∀ (fn : Fn) (first cap : Array Value) (w : World), (Instr.makeFunc fn first cap).run Try.prog w = .ok (.func fn first cap) w := fun _ _ _ _ => rfl
  have HP : Hid (w.heap[p]? = some (.cells (clC A wt (some ⟨T, 0, none⟩) rp) 60 (0, 0))) := hp
  have HT : Hid (w.heap[T]? = some (.cells (trC i s false q last 3 tg ck a len cap sz size next dn asked) 65 (0, 0))) := hT
  have lp : p < w.heap.size := lt_of_heap hp
  have lT : T < w.heap.size := lt_of_heap hT
  have HM : Hid (∀ W, W.heap[p]? = some (.cells (clC A wt (some ⟨T, 0, none⟩) rp) 60 (0, 0)) → Calls Try.prog 17 #[.pointer (some ⟨p, 0, none⟩), frV (1408 + A) 8 b0 b1 b2 b3 b4 b5 b6 b7 false] W fun e w' => e = .returned (.bool true) ∧ Below W.heap.size W w') := fun W h => isMeant_yes p A wt _ rp b0 b1 b2 b3 b4 b5 b6 b7 W h hA0 hA ho
  clear hp hT ho
  go_enter_defers Try.func7, Try.ntmps7
  go_wp2_with fail
  with_reducible refine (busy_on p T A wt rp _ (ext11 (ext11 (ext11 HP.out)))).mono ?_
  rintro r w9 ⟨rfl, rfl⟩
  go_wp2_with (refine load9_g 25 _ rfl ⟨w.heap.size + 1, 0, none⟩ _ rfl (loadF _ _ (1408 + A) 8 b0 b1 b2 b3 b4 b5 b6 b7 false _ (ext11 (at11 _ _ _ (by simp)))) ?_)
  with_reducible refine (HM.out _ (ext11 (ext11 (ext11 HP.out)))).mono ?_
  rintro r w1 ⟨rfl, hb⟩
  have B1 : Hid (Below w.heap.size w w1) := Below.andThen (by repeat (first | exact Below.refl _ _ | apply Below.drew | apply Below.al)) hb
  have HP1 : Hid _ := blk11 B1.out HP.out
  have HT1 : Hid _ := blk11 B1.out HT.out
  have BX1 : Hid (w1.heap[w.heap.size]? = some (.cells #[.pointer (some ⟨p, 0, none⟩)] 33 (0, 0))) := blk11 hb (ext11 (ext11 (at11 _ _ _ rfl)))
  have FX1 : Hid (w1.heap[w.heap.size + 1]? = some (.cells (frC (1408 + A) 8 b0 b1 b2 b3 b4 b5 b6 b7 false) 25 (0, 0))) := blk11 hb (ext11 (at11 _ _ _ (by simp)))
  have RX1 : Hid (w1.heap[w.heap.size + 1 + 1]? = some (.cells #[.slice none 0 0] 34 (0, 0))) := blk11 hb (at11 _ _ _ (by simp))
  have LR1 : Hid (w.heap.size + 1 + 1 < w1.heap.size) := lt_of_heap RX1.out
  clear hb
  go_wp2_with fail
  refine wp_normal ?_
  refine wp_region_held_drew (S := fun x => Kp [T] w1 x) (by kernel_rfl) (Kp.drew (Kp.refl _ _)) (fun hHeld => ?_)
  refine tk 0 (.pointer (some ⟨p, 0, none⟩)) rfl (.inl ⟨by rfl, ?_⟩) ?_
  · intro w9 hSw
    try dsimp only at hSw
    have c0 : w9.cell? ⟨w.heap.size, 0, none⟩ = some (.pointer (some ⟨p, 0, none⟩)) := by rw [cell_of_row _ _ 0 _ _ _ (Kp.at hSw (by simp; omega) BX1.out)]; rfl
    go_simp
    all_goals try assumption
  try simp only [Act.put, gA, gS, gZ, sA, sZ, sS]
  refine tk 1 (.pointer (some ⟨p, 0, none⟩)) rfl (.inl ⟨by rfl, ?_⟩) ?_
  · intro w9 hSw
    try dsimp only at hSw
    go_simp
    all_goals try decide
    all_goals try assumption
    all_goals try omega
  try simp only [Act.put, gA, gS, gZ, sA, sZ, sS]
  refine tk 2 (.pointer (some ⟨p, 2, none⟩)) rfl (.inl ⟨by rfl, ?_⟩) ?_
  · intro w9 hSw
    try dsimp only at hSw
    go_simp
    all_goals try decide
    all_goals try assumption
    all_goals try omega
  try simp only [Act.put, gA, gS, gZ, sA, sZ, sS]
  refine tk 3 (.pointer (some ⟨T, 0, none⟩)) rfl (.inl ⟨by rfl, ?_⟩) ?_
  · intro w9 hSw
    try dsimp only at hSw
    have c0 : w9.cell? ⟨p, 2, none⟩ = some (.pointer (some ⟨T, 0, none⟩)) := by rw [cell_of_row _ _ 2 _ _ _ (Kp.at hSw (by simpa using hne) HP1.out)]; rfl
    go_simp
    all_goals try assumption
  try simp only [Act.put, gA, gS, gZ, sA, sZ, sS]
  refine tk 4 (.int .i64 now) rfl (.inl ⟨by rfl, ?_⟩) ?_
  · intro w9 hSw
    try dsimp only at hSw
    go_simp
    all_goals try decide
    all_goals try assumption
    all_goals try omega
  try simp only [Act.put, gA, gS, gZ, sA, sZ, sS]
  refine wpAnyH_ready (rs := [5]) (by kernel_rfl) (by simp) ?_
  refine AllReadyH.cons rfl (fun K' hK => ?_) AllReadyH.nil
  rw [if_pos (by rfl)]
  simp only [gA, gS, gZ]
  go_wp2_with fail
  refine (timeOf_any now _).mono ?_
  rintro e z ⟨rfl, rfl⟩
  try go_wp2_with fail
  refine hK.out _ _ (hHeld) (fun hHeld => ?_)
  clear hK K'
  try simp only [Act.put, gA, gS, gZ, sA, sZ, sS]
  refine tk 6 (.pointer (some ⟨T, 0, none⟩)) rfl (.inl ⟨by rfl, ?_⟩) ?_
  · intro w9 hSw
    try dsimp only at hSw
    go_simp
    all_goals try decide
    all_goals try assumption
    all_goals try omega
  try simp only [Act.put, gA, gS, gZ, sA, sZ, sS]
  refine tk 7 (.pointer (some ⟨T, 4, none⟩)) rfl (.inl ⟨by rfl, ?_⟩) ?_
  · intro w9 hSw
    try dsimp only at hSw
    go_simp
    all_goals try decide
    all_goals try assumption
    all_goals try omega
  try simp only [Act.put, gA, gS, gZ, sA, sZ, sS]
  refine wpAnyH_ready (rs := [8]) (by kernel_rfl) (by simp) ?_
  refine AllReadyH.cons rfl (fun K' hK => ?_) AllReadyH.nil
  rw [if_pos (by rfl)]
  simp only [gA, gS, gZ]
  refine wp_store_by 2 _ _ rfl ⟨T, 4, none⟩ _ rfl rfl (store_int _ sizeI64 _ T 4 .i64 (tmN now) _ _ HT1.out (by simp)) ?_
  refine hK.out _ _ (Kp.row hHeld _ _ (.inl (by simp))) (fun hHeld => ?_)
  clear hK K'
  try simp only [Act.put, gA, gS, gZ, sA, sZ, sS]
  refine wpAnyH_done (by kernel_rfl) ?_ _
  obtain ⟨W2, HW2⟩ : ∃ W2, Hid (w1.drew.setRow T (trC i s false q (tmN now) 3 tg ck a len cap sz size next dn asked) = W2) := ⟨_, rfl⟩
  have K12 : Hid (Kp [T] w1 W2) := by show Kp _ _ _; rw [← HW2.out]; exact Kp.row (Kp.drew (Kp.refl _ _)) _ _ (.inl (by simp))
  have HT2 : Hid (W2.heap[T]? = some (.cells (trC i s false q (tmN now) 3 tg ck a len cap sz size next dn asked) 65 (0, 0))) := by show _ = _; rw [← HW2.out]; exact setRow_heap _ _ _ _ _ _ HT1.out
  have HP2 : Hid (W2.heap[p]? = some (.cells (clC A wt (some ⟨T, 0, none⟩) rp) 60 (0, 0))) := K12.out.at (by simpa using hne) HP1.out
  have BX2 : W2.cell? ⟨w.heap.size, 0, none⟩ = some (.pointer (some ⟨p, 0, none⟩)) := by rw [cell_of_row _ _ 0 _ _ _ (K12.out.at (by simp; omega) BX1.out)]; rfl
  have FX2 : Hid (W2.heap[w.heap.size + 1]? = some (.cells (frC (1408 + A) 8 b0 b1 b2 b3 b4 b5 b6 b7 false) 25 (0, 0))) := K12.out.at (by simp; omega) FX1.out
  have RX2 : Hid (W2.heap[w.heap.size + 1 + 1]? = some (.cells #[.slice none 0 0] 34 (0, 0))) := K12.out.at (by simp; omega) RX1.out
  have HS12 : Hid (w1.heap.size ≤ W2.heap.size) := K12.out.size
  have HAn2 : Hid (∀ W, Below W2.heap.size W2 W → Calls Try.prog 31 #[arr8 b0 b1 b2 b3 b4 b5 b6 b7] W (fun e w' => ∃ a2 cap2, e = .returned (.tuple #[cmV 3 i s true 0 true a2 len2 cap2 false false false 0 0 0 0 0, .int .i64 0]) ∧ Told W w' a2 len2 cap2 zs ∧ Below W.heap.size W w')) := fun W _ => HAn.out W
  rw [show w1.drew.setRow T _ = W2 from HW2.out]
  clear hHeld HW2
  go_wp2_with (refine wpList_load_by rfl 23 _ rfl ⟨w.heap.size + 1, 2, none⟩ (arr8 b0 b1 b2 b3 b4 b5 b6 b7) rfl (load_part 23 8 size8 agg8 _ (w.heap.size + 1) 2 [.int .u16 (1408 + A), .int .i64 8, .int .u8 b0, .int .u8 b1, .int .u8 b2, .int .u8 b3, .int .u8 b4, .int .u8 b5, .int .u8 b6, .int .u8 b7, .bool false] _ FX2.out (by simp)) ?_)
  with_reducible refine (follow_3 p T A wt rp i s q (tmN now) tg ck a len cap sz size next dn asked len2 zs b0 b1 b2 b3 b4 b5 b6 b7 W2 HP2.out HT2.out hne HAn2).mono ?_
  rintro r w3 ⟨a2, cap2, ⟨g, rfl, hg1, hg2, hg3, hg4⟩, htold⟩
  have HTD : Hid (Told W2 w3 a2 len2 cap2 zs) := htold
  clear htold
  have H4 : Hid _ := hg4
  have H3 : Hid _ := hg3
  have H2 : Hid _ := hg2
  have HG1 : Hid _ := hg1
  clear hg1 hg2 hg3 hg4 BX2
  have RX3 : w3.heap[w.heap.size + 1 + 1]? = some (.cells #[.slice none 0 0] 34 (0, 0)) := H2.out.at (by simp; omega) RX2.out
  have q0 : w3.cell? ⟨w.heap.size + 1 + 1, 0, none⟩ = some (.slice none 0 0) := by rw [cell_of_row _ _ 0 _ _ _ RX3]; rfl
  have z0 : w3.frozen? ⟨w.heap.size + 1 + 1, 0, none⟩ = false := froz11 _ _ 0 _ _ RX3
  have R3 : Hid _ := RX3
  clear RX3
  go_wp2_with fail
  refine leaves_cons (f := 18) (args := #[.pointer (some ⟨w.heap.size, 0, none⟩), .pointer (some ⟨w.heap.size + 1 + 1, 0, none⟩)]) (by simp) (by simp [go_sem]) ?_
  refine (idle11 _ _ _).mono ?_
  rintro e u' w'' ⟨rfl, rfl, rfl⟩
  obtain ⟨W4, HW4⟩ : ∃ W4, Hid (w3.setCell ⟨w.heap.size + 1 + 1, 0, none⟩ (.slice none 0 0) = W4) := ⟨_, rfl⟩
  have q4 : W4.cell? ⟨w.heap.size + 1 + 1, 0, none⟩ = some (.slice none 0 0) := by rw [← HW4.out]; exact World.cell?_setCell_same _ _ _ q0
  have K4 : Hid (Kp [p, T] w W4) := by
    show Kp _ _ _
    rw [← HW4.out]
    exact Kp.set ((Kp.of B1.out).trans ((K12.out.more (by simp)).trans H2.out)) _ _ (.inr (by show w.heap.size ≤ w.heap.size + 1 + 1; omega))
  have P4 : Hid (W4.heap[p]? = some (.cells (clC A wt none (some ⟨g, 0, none⟩)) 60 (0, 0))) := by show _ = _; rw [← HW4.out]; exact (heap_setCell_other _ _ _ _ (by show p ≠ w.heap.size + 1 + 1; omega)).trans H3.out
  have G4 : Hid _ := (heap_setCell_other w3 ⟨w.heap.size + 1 + 1, 0, none⟩ g (.slice none 0 0) (by show g ≠ w.heap.size + 1 + 1; have := HG1.out; have := HS12.out; have := LR1.out; omega)).trans H4.out
  rw [show w3.setCell ⟨w.heap.size + 1 + 1, 0, none⟩ (.slice none 0 0) = W4 from HW4.out] at G4
  have HGS : Hid (w.heap.size ≤ g) := by show _ ≤ _; have := HG1.out; have := HS12.out; have := LR1.out; omega
  rw [HW4.out]
  simp only [Leaves, settle]
  refine ⟨.slice none 0 0, by simp [results, Try.results7, go_sem, q4], ?_⟩
  exact ⟨a2, cap2, ⟨g, rfl, HGS.out, K4.out, P4.out, G4.out⟩, HTD.out.keep11 (Nat.le_trans (by have := B1.out.size; omega) HS12.out) (fun g' h1 _ => by rw [← HW4.out]; exact heap_setCell_other _ _ _ _ (by show g' ≠ w.heap.size + 1 + 1; have := HS12.out; have := LR1.out; omega))⟩

end Go.Proofs.Ytenfbebdfodmdaa
