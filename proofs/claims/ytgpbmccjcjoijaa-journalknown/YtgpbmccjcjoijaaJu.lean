/-
  The walk of move.
-/
import Derived.Test.YtgpbmccjcjoijaaJs
import Derived.Test.YtgpbmccjcjoijaaJp
namespace Go.Proofs.Ytgpbmccjcjoijaa
open Go.RowKit

theorem JB.putHalf {w : World} {q p f1 f2 k : Nat} {bg : Bool} {num : Int} {en : Nat} {all : List Gp} {ss : List SL} {cut : Bool} (h : JB w q p f1 f2 k bg num en all ss cut) (h1 : all.length = 16) (h2 : ss.length = 16) (g1 : Nat) (bg' : Bool) (num' : Int) (en' : Nat) : ∃ w', (storeVar 64 ⟨q, 0, none⟩ (.agg (half6 p g1 k bg' num' en').toArray)).run Try.prog w = .ok () w' ∧ JB w' q p g1 f2 k bg' num' en' all ss cut ∧ Kp [q] w w' := by
  have := store_part 64 6 size64 w q 0 _ _ h (half6 p g1 k bg' num' en') rfl (by rw [List.size_toArray, jcells_len p f1 f2 k bg num en h1 h2 cut]; omega) (half6_one _ _ _ _ _ _)
  refine ⟨_, this, ?_, (Kp.refl _ _).row _ _ (.inl (by simp))⟩
  show _ = _
  rw [setRow_heap w q _ _ _ _ h]
  rfl
theorem JB.putSpare {w : World} {q p f1 f2 k : Nat} {bg : Bool} {num : Int} {en : Nat} {all : List Gp} {ss : List SL} {cut : Bool} (h : JB w q p f1 f2 k bg num en all ss cut) (h1 : all.length = 16) (h2 : ss.length = 16) (g2 : Nat) : ∃ w', (storeVar 62 ⟨q, 6, none⟩ (.agg (rg3 p g2 k).toArray)).run Try.prog w = .ok () w' ∧ JB w' q p f1 g2 k bg num en all ss cut ∧ Kp [q] w w' := by
  have := store_part 62 3 size62 w q 6 _ _ h (rg3 p g2 k) rfl (by rw [List.size_toArray, jcells_len p f1 f2 k bg num en h1 h2 cut]; omega) (fun v hv => by simp only [rg3, List.mem_cons, List.not_mem_nil, or_false] at hv; rcases hv with rfl | rfl | rfl <;> rfl)
  refine ⟨_, this, ?_, (Kp.refl _ _).row _ _ (.inl (by simp))⟩
  show _ = _
  rw [setRow_heap w q _ _ _ _ h]
  rfl
theorem store6 {W : World} {g : Nat} (h : W.heap[g]? = some (.cells zero6 64 (0, 0))) (hp : Option Addr) (hf hk : Int) (hb : Bool) (hn he : Int) : (storeVar 64 ⟨g, 0, none⟩ (.agg #[.pointer hp, .int .i64 hf, .int .i64 hk, .bool hb, .int .u8 hn, .int .i64 he])).run Try.prog W = .ok () (W.setRow g #[.pointer hp, .int .i64 hf, .int .i64 hk, .bool hb, .int .u8 hn, .int .i64 he]) := by
  have := store_part 64 6 size64 W g 0 zero6 _ h [.pointer hp, .int .i64 hf, .int .i64 hk, .bool hb, .int .u8 hn, .int .i64 he] rfl (by simp) (fun v hv => by simp only [List.mem_cons, List.not_mem_nil, or_false] at hv; rcases hv with rfl | rfl | rfl | rfl | rfl | rfl <;> rfl)
  exact this
/-- What move leaves: the answer, the flash, the journal. -/
def MovePost (w : World) (p B n cap q f1 f2 k : Nat) (bg : Bool) (num : Int) (en : Nat) (all : List Gp) (ss : List SL) (cut : Bool) (R : Int × Nat × FS) (e : Ending) (w' : World) : Prop :=
  e = .returned (.int .i64 R.1) ∧ IsS w' p B n cap R.2.2 ∧ (if R.1 = 0 then JB w' q p f2 f1 k true ((num + 1) % 256) R.2.1 all ss cut else JB w' q p f1 f2 k bg num en all ss cut) ∧ Kp [p, B, q] w w'

set_option linter.unusedSimpArgs false in
set_option maxHeartbeats 8000000 in
set_option maxRecDepth 100000 in
theorem move_any {w : World} {p B n cap : Nat} {s : FS} (hF : IsS w p B n cap s) (m : Nat) (hm : s.Le m) (hm2 : m ≤ 800000000) {q f1 f2 k : Nat} {bg : Bool} {num : Int} {en : Nat} {all : List Gp} {ss : List SL} {cut : Bool} (h : JB w q p f1 f2 k bg num en all ss cut) (h1 : all.length = 16) (h2 : ss.length = 16) (hqp : q ≠ p) (hqB : q ≠ B) (hk : 1 ≤ k) (hfk : f2 + k ≤ n) (S : List Nat) (hpS : p ∈ S) (hBS : B ∈ S) (af : List Gp) (sa : List SL) (hG : IsG w S af sa) :
    Calls Try.prog 57 #[.pointer (some ⟨q, 0, none⟩), .agg (gflat af sa).toArray] w fun e w' => MovePost w p B n cap q f1 f2 k bg num en all ss cut (fillP n f2 k ((num + 1) % 256) af s) e w' := by
  have hlt := hF.lt
  have hq : q < w.heap.size := lt_of_heap h
  obtain ⟨C, hC⟩ : ∃ C, Hid ((gflat af sa).toArray = C) := ⟨_, rfl⟩
  have bX : Below w.heap.size w (w.alloc (.cells C 68)) := Below.al (Below.refl _ _) _
  have gX : GB (w.alloc (.cells C 68)) w.heap.size af sa := by rw [← hC.out]; exact heap_alloc_new w _
  have hX : JB (w.alloc (.cells C 68)) q p f1 f2 k bg num en all ss cut := (bX.block q hq).trans h
  have hFX := hF.next bX
  have hGX := hG.next bX
  have hN : 0 ≤ (num + 1) % 256 ∧ (num + 1) % 256 < 256 := by omega
  have gW : IntKind.u8.wrap (num + 1) = (num + 1) % 256 := by simp [IntKind.wrap, IntKind.bits, IntKind.signed]
  have FL : Hid (∀ z, Below w.heap.size w z → Calls Try.prog 67 #[.agg #[.pointer (some ⟨p, 0, none⟩), .int .i64 (f2 : Int), .int .i64 (k : Int)], .int .u8 ((num + 1) % 256), .agg C] z fun e w' => FillPost z p B n cap f2 k ((num + 1) % 256) (fillP n f2 k ((num + 1) % 256) af s) e w') := fun z hz => by rw [← hC.out]; exact fill_any (hF.next hz) m hm hm2 f2 k hk hfk _ hN S hpS hBS af sa (hG.next hz)
  rw [hC.out]
  obtain ⟨E, en2, t, hR⟩ : ∃ E e2 t, Hid (fillP n f2 k ((num + 1) % 256) af s = (E, e2, t)) := ⟨_, _, _, rfl⟩
  rw [hR.out] at FL
  rw [hR.out]
  obtain ⟨nw, hnw⟩ : ∃ nw, Hid ((num + 1) % 256 = nw) := ⟨_, rfl⟩
  rw [hnw.out] at FL gW hN
  have HPOST : Hid (∀ V, IsS V p B n cap t → (if E = 0 then JB V q p f2 f1 k true nw en2 all ss cut else JB V q p f1 f2 k bg num en all ss cut) → Kp [p, B, q] w V → MovePost w p B n cap q f1 f2 k bg num en all ss cut (E, en2, t) (.returned (.int .i64 E)) V) := fun V a b c => ⟨rfl, a, by rw [hnw.out]; exact b, c⟩
  clear hF hG h hR hnw
  go_enter Try.func57, Try.ntmps57
  go_wp2_with fail
  generalize hXX : (w.alloc (.cells C 68)) = X at *
  generalize hz0 : w.heap.size = z at *
  have HZ0 : Hid (w.heap.size = z) := hz0
  clear hXX hz0
  have LG : ∀ W, W.heap[z]? = some (.cells C 68 (0, 0)) → (loadVar 68 ⟨z, 0, none⟩).run Try.prog W = .ok (.agg C) W := fun W hW => by
    have := load68 hGX.n1 hGX.n2 (W := W) (gb := z) (by rw [GB, hC.out]; exact hW)
    rwa [hC.out] at this
  have gX' : X.heap[z]? = some (.cells C 68 (0, 0)) := by rw [← hC.out]; exact gX
  have x6 := hX.c6
  have x7 := hX.c7
  have x8 := hX.c8
  have x4 := hX.c4
  have HX : Hid (JB X q p f1 f2 k bg num en all ss cut) := hX
  have zX : z < X.heap.size := lt_of_heap gX'
  have wX : Kp [] w X := Kp.of (by rw [HZ0.out]; exact bX)
  clear gX hX
  have nq : ∀ x : Unit, q ∉ [p, B] := fun _ => by simp [hqp, hqB]
  have nz : ∀ x : Unit, z ∉ [p, B] := fun _ => by simp; omega
  have KXa : Kp [p, B] X (X.drew.alloc (.cells zero6 64)) := ((Kp.refl _ _).drew).al _
  have qX : q < X.heap.size := lt_of_heap HX.out
  refine wp_region_held_drew (S := fun x => x.cell? ⟨q, 6, none⟩ = some (.pointer (some ⟨p, 0, none⟩)) ∧ x.cell? ⟨q, 7, none⟩ = some (.int .i64 (f2 : Int)) ∧ x.cell? ⟨q, 8, none⟩ = some (.int .i64 (k : Int)) ∧ x.cell? ⟨q, 4, none⟩ = some (.int .u8 num) ∧ x.heap[z]? = some (.cells C 68 (0, 0))) (by kernel_rfl) (⟨x6, x7, x8, x4, gX'⟩) (fun hHeld => ?_)
  refine wpAnyH_take (i := 0) (v := (.pointer (some ⟨q, 0, none⟩))) rfl (by kernel_rfl) (by kernel_rfl) (by kernel_rfl) (fun _ _ _ h => h) (Or.inl ⟨by rfl, ?_⟩) (by assumption) ?_
  · intro w9 hSw
    try dsimp only at hSw
    go_simp
    all_goals try decide
    all_goals try assumption
    all_goals try omega
  try simp only [Act.put, List.getElem_toArray, List.getElem_cons_succ, List.getElem_cons_zero, List.setIfInBounds_toArray, List.set_cons_zero, List.set_cons_succ]
  refine wpAnyH_take (i := 1) (v := (.pointer (some ⟨q, 0, none⟩))) rfl (by kernel_rfl) (by kernel_rfl) (by kernel_rfl) (fun _ _ _ h => h) (Or.inl ⟨by rfl, ?_⟩) (by assumption) ?_
  · intro w9 hSw
    try dsimp only at hSw
    go_simp
    all_goals try decide
    all_goals try assumption
    all_goals try omega
  try simp only [Act.put, List.getElem_toArray, List.getElem_cons_succ, List.getElem_cons_zero, List.setIfInBounds_toArray, List.set_cons_zero, List.set_cons_succ]
  refine wpAnyH_take (i := 2) (v := (.pointer (some ⟨q, 6, none⟩))) rfl (by kernel_rfl) (by kernel_rfl) (by kernel_rfl) (fun _ _ _ h => h) (Or.inl ⟨by rfl, ?_⟩) (by assumption) ?_
  · intro w9 hSw
    try dsimp only at hSw
    go_simp
    all_goals try decide
    all_goals try assumption
    all_goals try omega
  try simp only [Act.put, List.getElem_toArray, List.getElem_cons_succ, List.getElem_cons_zero, List.setIfInBounds_toArray, List.set_cons_zero, List.set_cons_succ]
  refine wpAnyH_take (i := 3) (v := (.agg #[.pointer (some ⟨p, 0, none⟩), .int .i64 (f2 : Int), .int .i64 (k : Int)])) rfl (by kernel_rfl) (by kernel_rfl) (by kernel_rfl) (fun _ _ _ h => h) (Or.inl ⟨by rfl, ?_⟩) (by assumption) ?_
  · intro w9 hSw
    try dsimp only at hSw
    go_simp
    all_goals try decide
    all_goals try assumption
    all_goals try omega
  try simp only [Act.put, List.getElem_toArray, List.getElem_cons_succ, List.getElem_cons_zero, List.setIfInBounds_toArray, List.set_cons_zero, List.set_cons_succ]
  refine wpAnyH_take (i := 4) (v := (.pointer (some ⟨q, 0, none⟩))) rfl (by kernel_rfl) (by kernel_rfl) (by kernel_rfl) (fun _ _ _ h => h) (Or.inl ⟨by rfl, ?_⟩) (by assumption) ?_
  · intro w9 hSw
    try dsimp only at hSw
    go_simp
    all_goals try decide
    all_goals try assumption
    all_goals try omega
  try simp only [Act.put, List.getElem_toArray, List.getElem_cons_succ, List.getElem_cons_zero, List.setIfInBounds_toArray, List.set_cons_zero, List.set_cons_succ]
  refine wpAnyH_take (i := 5) (v := (.pointer (some ⟨q, 0, none⟩))) rfl (by kernel_rfl) (by kernel_rfl) (by kernel_rfl) (fun _ _ _ h => h) (Or.inl ⟨by rfl, ?_⟩) (by assumption) ?_
  · intro w9 hSw
    try dsimp only at hSw
    go_simp
    all_goals try decide
    all_goals try assumption
    all_goals try omega
  try simp only [Act.put, List.getElem_toArray, List.getElem_cons_succ, List.getElem_cons_zero, List.setIfInBounds_toArray, List.set_cons_zero, List.set_cons_succ]
  refine wpAnyH_take (i := 6) (v := (.pointer (some ⟨q, 0, none⟩))) rfl (by kernel_rfl) (by kernel_rfl) (by kernel_rfl) (fun _ _ _ h => h) (Or.inl ⟨by rfl, ?_⟩) (by assumption) ?_
  · intro w9 hSw
    try dsimp only at hSw
    go_simp
    all_goals try decide
    all_goals try assumption
    all_goals try omega
  try simp only [Act.put, List.getElem_toArray, List.getElem_cons_succ, List.getElem_cons_zero, List.setIfInBounds_toArray, List.set_cons_zero, List.set_cons_succ]
  refine wpAnyH_take (i := 7) (v := (.pointer (some ⟨q, 4, none⟩))) rfl (by kernel_rfl) (by kernel_rfl) (by kernel_rfl) (fun _ _ _ h => h) (Or.inl ⟨by rfl, ?_⟩) (by assumption) ?_
  · intro w9 hSw
    try dsimp only at hSw
    go_simp
    all_goals try decide
    all_goals try assumption
    all_goals try omega
  try simp only [Act.put, List.getElem_toArray, List.getElem_cons_succ, List.getElem_cons_zero, List.setIfInBounds_toArray, List.set_cons_zero, List.set_cons_succ]
  refine wpAnyH_take (i := 8) (v := (.int .u8 num)) rfl (by kernel_rfl) (by kernel_rfl) (by kernel_rfl) (fun _ _ _ h => h) (Or.inl ⟨by rfl, ?_⟩) (by assumption) ?_
  · intro w9 hSw
    try dsimp only at hSw
    go_simp
    all_goals try decide
    all_goals try assumption
    all_goals try omega
  try simp only [Act.put, List.getElem_toArray, List.getElem_cons_succ, List.getElem_cons_zero, List.setIfInBounds_toArray, List.set_cons_zero, List.set_cons_succ]
  refine wpAnyH_take (i := 9) (v := (.int .u8 nw)) rfl (by kernel_rfl) (by kernel_rfl) (by kernel_rfl) (fun _ _ _ h => h) (Or.inl ⟨by rfl, ?_⟩) (by assumption) ?_
  · intro w9 hSw
    try dsimp only at hSw
    go_simp
    all_goals try decide
    all_goals try assumption
    all_goals try omega
  try simp only [Act.put, List.getElem_toArray, List.getElem_cons_succ, List.getElem_cons_zero, List.setIfInBounds_toArray, List.set_cons_zero, List.set_cons_succ]
  refine wpAnyH_take (i := 10) (v := (.agg C)) rfl (by kernel_rfl) (by kernel_rfl) (by kernel_rfl) (fun _ _ _ h => h) (Or.inl ⟨by rfl, ?_⟩) (by assumption) ?_
  · intro w9 hSw
    try dsimp only at hSw
    exact ex_load 68 (.tmp 3) rfl _ _ rfl (LG w9 hSw.2.2.2.2)
  try simp only [Act.put, List.getElem_toArray, List.getElem_cons_succ, List.getElem_cons_zero, List.setIfInBounds_toArray, List.set_cons_zero, List.set_cons_succ]
  refine wpAnyH_ready (rs := [11, 15]) (by kernel_rfl) (by simp) ?_
  refine AllReadyH.cons rfl (fun K' hK => ?_) (AllReadyH.cons rfl (fun K' hK => ?_) AllReadyH.nil)
  · rw [if_pos (by rfl)]
    simp only [List.getElem_toArray, List.getElem_cons_succ, List.getElem_cons_zero]
    go_wp2_with fail
    refine (FL.out _ (Below.drew bX)).mono ?_
    rintro e U ⟨⟨hp, hf, hk', hb, hn, he, rfl, hok⟩, hF1, hK1⟩
    try go_wp2_with fail
    have KU : Kp [p, B] X U := (Kp.refl _ _).drew.trans hK1
    have KUa : Kp [p, B] X (U.alloc (.cells zero6 64)) := KU.al _
    have S6 := store6 (heap_alloc_new U (.cells zero6 64)) hp hf hk' hb hn he
    have zU : X.heap.size ≤ U.heap.size := KU.size
    have KV : Kp [p, B] X ((U.alloc (.cells zero6 64)).setRow U.heap.size #[.pointer hp, .int .i64 hf, .int .i64 hk', .bool hb, .int .u8 hn, .int .i64 he]) := KUa.row _ _ (.inr zU)
    have bV : ((U.alloc (.cells zero6 64)).setRow U.heap.size #[.pointer hp, .int .i64 hf, .int .i64 hk', .bool hb, .int .u8 hn, .int .i64 he]).heap[U.heap.size]? = some (.cells #[.pointer hp, .int .i64 hf, .int .i64 hk', .bool hb, .int .u8 hn, .int .i64 he] 64 (0, 0)) := setRow_heap _ _ _ _ _ _ (heap_alloc_new U _)
    have fV : IsS ((U.alloc (.cells zero6 64)).setRow U.heap.size #[.pointer hp, .int .i64 hf, .int .i64 hk', .bool hb, .int .u8 hn, .int .i64 he]) p B n cap t := by
      have h9 := (hF1.next (Below.al (Below.refl _ _) (.cells zero6 64)))
      have := hF1.lt
      exact h9.kp ((Kp.refl [U.heap.size] _).row _ _ (.inl (by simp))) (by simp; omega) (by simp; omega)
    have jV : JB ((U.alloc (.cells zero6 64)).setRow U.heap.size #[.pointer hp, .int .i64 hf, .int .i64 hk', .bool hb, .int .u8 hn, .int .i64 he]) q p f1 f2 k bg num en all ss cut := (KV.block q (by omega) (by simp [hqp, hqB])).trans HX.out
    have kV : Kp [p, B] w ((U.alloc (.cells zero6 64)).setRow U.heap.size #[.pointer hp, .int .i64 hf, .int .i64 hk', .bool hb, .int .u8 hn, .int .i64 he]) := (wX.more (by simp)).trans KV
    refine hK.out _ _ (⟨KU.cell x6 (nq ()), KU.cell x7 (nq ()), KU.cell x8 (nq ()), KU.cell x4 (nq ()), (KU.block z (by omega) (nz ())).trans gX'⟩) (fun hHeld => ?_)
    clear hK K'
    try simp only [Act.put, List.getElem_toArray, List.getElem_cons_succ, List.getElem_cons_zero, List.setIfInBounds_toArray, List.set_cons_zero, List.set_cons_succ]
    refine wpAnyH_take (i := 12) (v := (.tuple #[.agg #[.pointer hp, .int .i64 hf, .int .i64 hk', .bool hb, .int .u8 hn, .int .i64 he], .int .i64 E])) rfl (by kernel_rfl) (by kernel_rfl) (by kernel_rfl) (fun _ _ _ h => h) (Or.inl ⟨by rfl, ?_⟩) (by assumption) ?_
    · intro w9 hSw
      try dsimp only at hSw
      go_simp
      all_goals try decide
      all_goals try assumption
      all_goals try omega
    try simp only [Act.put, List.getElem_toArray, List.getElem_cons_succ, List.getElem_cons_zero, List.setIfInBounds_toArray, List.set_cons_zero, List.set_cons_succ]
    refine wpAnyH_take (i := 13) (v := (.agg #[.pointer hp, .int .i64 hf, .int .i64 hk', .bool hb, .int .u8 hn, .int .i64 he])) rfl (by kernel_rfl) (by kernel_rfl) (by kernel_rfl) (fun _ _ _ h => h) (Or.inl ⟨by rfl, ?_⟩) (by assumption) ?_
    · intro w9 hSw
      try dsimp only at hSw
      go_simp
      all_goals try decide
      all_goals try assumption
      all_goals try omega
    try simp only [Act.put, List.getElem_toArray, List.getElem_cons_succ, List.getElem_cons_zero, List.setIfInBounds_toArray, List.set_cons_zero, List.set_cons_succ]
    refine wpAnyH_take (i := 14) (v := (.int .i64 E)) rfl (by kernel_rfl) (by kernel_rfl) (by kernel_rfl) (fun _ _ _ h => h) (Or.inl ⟨by rfl, ?_⟩) (by assumption) ?_
    · intro w9 hSw
      try dsimp only at hSw
      go_simp
      all_goals try decide
      all_goals try assumption
      all_goals try omega
    try simp only [Act.put, List.getElem_toArray, List.getElem_cons_succ, List.getElem_cons_zero, List.setIfInBounds_toArray, List.set_cons_zero, List.set_cons_succ]
    refine wpAnyH_ready (rs := [15]) (by kernel_rfl) (by simp) ?_
    refine AllReadyH.cons rfl (fun K' hK => ?_) AllReadyH.nil
    rw [if_pos (by rfl)]
    simp only [List.getElem_toArray, List.getElem_cons_succ, List.getElem_cons_zero]
    go_wp2_with fail
    refine hK.out _ _ (⟨KUa.cell x6 (nq ()), KUa.cell x7 (nq ()), KUa.cell x8 (nq ()), KUa.cell x4 (nq ()), (KUa.block z (by omega) (nz ())).trans gX'⟩) (fun hHeld => ?_)
    clear hK K'
    try simp only [Act.put, List.getElem_toArray, List.getElem_cons_succ, List.getElem_cons_zero, List.setIfInBounds_toArray, List.set_cons_zero, List.set_cons_succ]
    refine wpAnyH_ready (rs := [16]) (by kernel_rfl) (by simp) ?_
    refine AllReadyH.cons rfl (fun K' hK => ?_) AllReadyH.nil
    rw [if_pos (by rfl)]
    simp only [List.getElem_toArray, List.getElem_cons_succ, List.getElem_cons_zero]
    refine wp_store_by 64 (.tmp 5) (.tmp 20) rfl _ _ rfl rfl S6 ?_
    refine hK.out _ _ (⟨KV.cell x6 (nq ()), KV.cell x7 (nq ()), KV.cell x8 (nq ()), KV.cell x4 (nq ()), (KV.block z (by omega) (nz ())).trans gX'⟩) (fun hHeld => ?_)
    clear hK K'
    try simp only [Act.put, List.getElem_toArray, List.getElem_cons_succ, List.getElem_cons_zero, List.setIfInBounds_toArray, List.set_cons_zero, List.set_cons_succ]
    refine wpAnyH_take (i := 17) (v := (.int .i64 E)) rfl (by kernel_rfl) (by kernel_rfl) (by kernel_rfl) (fun _ _ _ h => h) (Or.inl ⟨by rfl, ?_⟩) (by assumption) ?_
    · intro w9 hSw
      try dsimp only at hSw
      go_simp
      all_goals try decide
      all_goals try assumption
      all_goals try omega
    try simp only [Act.put, List.getElem_toArray, List.getElem_cons_succ, List.getElem_cons_zero, List.setIfInBounds_toArray, List.set_cons_zero, List.set_cons_succ]
    refine wpAnyH_done (by kernel_rfl) ?_ _
    clear KU KUa KV S6 hF1 hK1
    clear x6 x7 x8 x4 gX' FL LG
    generalize ((U.alloc (.cells zero6 64)).setRow U.heap.size #[.pointer hp, .int .i64 hf, .int .i64 hk', .bool hb, .int .u8 hn, .int .i64 he]) = V at *
    generalize U.heap.size = fb at *
    have HV : Hid (IsS V p B n cap t) := fV
    have HKV : Hid (Kp [p, B] w V) := kV
    have HJV : Hid (JB V q p f1 f2 k bg num en all ss cut) := jV
    by_cases hE : E = 0
    · obtain ⟨rfl, rfl, rfl, rfl, rfl, rfl⟩ := hok hE
      subst hE
      have b64 : V.heap[fb]? = some (.cells (half6 p f2 k true hn en2).toArray 64 (0, 0)) := bV
      have j0 := jV.c0
      have j1 := jV.c1
      have j2 := jV.c2
      have jD : JB V.drew q p f1 f2 k bg num en all ss cut := jV
      obtain ⟨w1, s1, J1, k1⟩ := jD.putHalf h1 h2 f2 true hn en2
      obtain ⟨w2, s2, J2, k2⟩ := J1.putSpare h1 h2 f1
      have nfq : fb ≠ q := fun e => by rw [e, jV] at b64; simp at b64
      have b1 : w1.heap[fb]? = _ := (k1.block fb (lt_of_heap b64) (by simpa using nfq)).trans b64
      have b2 : w2.heap[fb]? = _ := (k2.block fb (lt_of_heap b1) (by simpa using nfq)).trans b1
      have KK : Kp [q] V w2 := ((Kp.refl _ _).drew.trans k1).trans k2
      have FIN := HPOST.out w2 (HV.out.kp KK (by simpa using Ne.symm hqp) (by simpa using Ne.symm hqB)) (by rw [if_pos rfl]; exact J2) ((HKV.out.more (by simp)).trans (KK.more (by simp)))
      have HFIN : Hid (MovePost w p B n cap q f1 f2 k bg num en all ss cut (0, en2, t) (.returned (.int .i64 0)) w2) := FIN
      clear FIN KK J1 J2 k1 k2 fV kV jV bV jD hok
      go_wp2_with fail
      refine wp_region_held_drew (S := fun x => x.heap[fb]? = some (.cells (half6 p f2 k true hn en2).toArray 64 (0, 0))) (by kernel_rfl) (b64) (fun hHeld => ?_)
      refine wpAnyH_take (i := 0) (v := (.pointer (some ⟨q, 0, none⟩))) rfl (by kernel_rfl) (by kernel_rfl) (by kernel_rfl) (fun _ _ _ h => h) (Or.inl ⟨by rfl, ?_⟩) (by assumption) ?_
      · intro w9 hSw
        try dsimp only at hSw
        go_simp
        all_goals try decide
        all_goals try assumption
        all_goals try omega
      try simp only [Act.put, List.getElem_toArray, List.getElem_cons_succ, List.getElem_cons_zero, List.setIfInBounds_toArray, List.set_cons_zero, List.set_cons_succ]
      refine wpAnyH_take (i := 1) (v := (.pointer (some ⟨q, 0, none⟩))) rfl (by kernel_rfl) (by kernel_rfl) (by kernel_rfl) (fun _ _ _ h => h) (Or.inl ⟨by rfl, ?_⟩) (by assumption) ?_
      · intro w9 hSw
        try dsimp only at hSw
        go_simp
        all_goals try decide
        all_goals try assumption
        all_goals try omega
      try simp only [Act.put, List.getElem_toArray, List.getElem_cons_succ, List.getElem_cons_zero, List.setIfInBounds_toArray, List.set_cons_zero, List.set_cons_succ]
      refine wpAnyH_take (i := 2) (v := (.agg (half6 p f2 k true hn en2).toArray)) rfl (by kernel_rfl) (by kernel_rfl) (by kernel_rfl) (fun _ _ _ h => h) (Or.inl ⟨by rfl, ?_⟩) (by assumption) ?_
      · intro w9 hSw
        try dsimp only at hSw
        exact ex_load 64 (.tmp 5) rfl _ _ rfl (load64 hSw)
      try simp only [Act.put, List.getElem_toArray, List.getElem_cons_succ, List.getElem_cons_zero, List.setIfInBounds_toArray, List.set_cons_zero, List.set_cons_succ]
      refine wpAnyH_take (i := 3) (v := (.pointer (some ⟨q, 0, none⟩))) rfl (by kernel_rfl) (by kernel_rfl) (by kernel_rfl) (fun _ _ _ h => h) (Or.inl ⟨by rfl, ?_⟩) (by assumption) ?_
      · intro w9 hSw
        try dsimp only at hSw
        go_simp
        all_goals try decide
        all_goals try assumption
        all_goals try omega
      try simp only [Act.put, List.getElem_toArray, List.getElem_cons_succ, List.getElem_cons_zero, List.setIfInBounds_toArray, List.set_cons_zero, List.set_cons_succ]
      refine wpAnyH_take (i := 4) (v := (.pointer (some ⟨q, 0, none⟩))) rfl (by kernel_rfl) (by kernel_rfl) (by kernel_rfl) (fun _ _ _ h => h) (Or.inl ⟨by rfl, ?_⟩) (by assumption) ?_
      · intro w9 hSw
        try dsimp only at hSw
        go_simp
        all_goals try decide
        all_goals try assumption
        all_goals try omega
      try simp only [Act.put, List.getElem_toArray, List.getElem_cons_succ, List.getElem_cons_zero, List.setIfInBounds_toArray, List.set_cons_zero, List.set_cons_succ]
      refine wpAnyH_take (i := 5) (v := (.pointer (some ⟨q, 0, none⟩))) rfl (by kernel_rfl) (by kernel_rfl) (by kernel_rfl) (fun _ _ _ h => h) (Or.inl ⟨by rfl, ?_⟩) (by assumption) ?_
      · intro w9 hSw
        try dsimp only at hSw
        go_simp
        all_goals try decide
        all_goals try assumption
        all_goals try omega
      try simp only [Act.put, List.getElem_toArray, List.getElem_cons_succ, List.getElem_cons_zero, List.setIfInBounds_toArray, List.set_cons_zero, List.set_cons_succ]
      refine wpAnyH_take (i := 6) (v := (.pointer (some ⟨q, 0, none⟩))) rfl (by kernel_rfl) (by kernel_rfl) (by kernel_rfl) (fun _ _ _ h => h) (Or.inl ⟨by rfl, ?_⟩) (by assumption) ?_
      · intro w9 hSw
        try dsimp only at hSw
        go_simp
        all_goals try decide
        all_goals try assumption
        all_goals try omega
      try simp only [Act.put, List.getElem_toArray, List.getElem_cons_succ, List.getElem_cons_zero, List.setIfInBounds_toArray, List.set_cons_zero, List.set_cons_succ]
      refine wpAnyH_ready (rs := [7]) (by kernel_rfl) (by simp) ?_
      refine AllReadyH.cons rfl (fun K' hK => ?_) AllReadyH.nil
      rw [if_pos (by rfl)]
      simp only [List.getElem_toArray, List.getElem_cons_succ, List.getElem_cons_zero]
      go_wp2_with fail
      refine hK.out _ _ (b64) (fun hHeld => ?_)
      clear hK K'
      try simp only [Act.put, List.getElem_toArray, List.getElem_cons_succ, List.getElem_cons_zero, List.setIfInBounds_toArray, List.set_cons_zero, List.set_cons_succ]
      refine wpAnyH_take (i := 8) (v := (.pointer (some ⟨q, 0, none⟩))) rfl (by kernel_rfl) (by kernel_rfl) (by kernel_rfl) (fun _ _ _ h => h) (Or.inl ⟨by rfl, ?_⟩) (by assumption) ?_
      · intro w9 hSw
        try dsimp only at hSw
        go_simp
        all_goals try decide
        all_goals try assumption
        all_goals try omega
      try simp only [Act.put, List.getElem_toArray, List.getElem_cons_succ, List.getElem_cons_zero, List.setIfInBounds_toArray, List.set_cons_zero, List.set_cons_succ]
      refine wpAnyH_take (i := 9) (v := (.pointer (some ⟨q, 0, none⟩))) rfl (by kernel_rfl) (by kernel_rfl) (by kernel_rfl) (fun _ _ _ h => h) (Or.inl ⟨by rfl, ?_⟩) (by assumption) ?_
      · intro w9 hSw
        try dsimp only at hSw
        go_simp
        all_goals try decide
        all_goals try assumption
        all_goals try omega
      try simp only [Act.put, List.getElem_toArray, List.getElem_cons_succ, List.getElem_cons_zero, List.setIfInBounds_toArray, List.set_cons_zero, List.set_cons_succ]
      refine wpAnyH_ready (rs := [10]) (by kernel_rfl) (by simp) ?_
      refine AllReadyH.cons rfl (fun K' hK => ?_) AllReadyH.nil
      rw [if_pos (by rfl)]
      simp only [List.getElem_toArray, List.getElem_cons_succ, List.getElem_cons_zero]
      refine wp_store_by 64 (.tmp 33) (.tmp 26) rfl _ _ rfl rfl s1 ?_
      refine hK.out _ _ (b1) (fun hHeld => ?_)
      clear hK K'
      try simp only [Act.put, List.getElem_toArray, List.getElem_cons_succ, List.getElem_cons_zero, List.setIfInBounds_toArray, List.set_cons_zero, List.set_cons_succ]
      refine wpAnyH_take (i := 11) (v := (.pointer (some ⟨q, 0, none⟩))) rfl (by kernel_rfl) (by kernel_rfl) (by kernel_rfl) (fun _ _ _ h => h) (Or.inl ⟨by rfl, ?_⟩) (by assumption) ?_
      · intro w9 hSw
        try dsimp only at hSw
        go_simp
        all_goals try decide
        all_goals try assumption
        all_goals try omega
      try simp only [Act.put, List.getElem_toArray, List.getElem_cons_succ, List.getElem_cons_zero, List.setIfInBounds_toArray, List.set_cons_zero, List.set_cons_succ]
      refine wpAnyH_take (i := 12) (v := (.pointer (some ⟨q, 6, none⟩))) rfl (by kernel_rfl) (by kernel_rfl) (by kernel_rfl) (fun _ _ _ h => h) (Or.inl ⟨by rfl, ?_⟩) (by assumption) ?_
      · intro w9 hSw
        try dsimp only at hSw
        go_simp
        all_goals try decide
        all_goals try assumption
        all_goals try omega
      try simp only [Act.put, List.getElem_toArray, List.getElem_cons_succ, List.getElem_cons_zero, List.setIfInBounds_toArray, List.set_cons_zero, List.set_cons_succ]
      refine wpAnyH_ready (rs := [13]) (by kernel_rfl) (by simp) ?_
      refine AllReadyH.cons rfl (fun K' hK => ?_) AllReadyH.nil
      rw [if_pos (by rfl)]
      simp only [List.getElem_toArray, List.getElem_cons_succ, List.getElem_cons_zero]
      refine wp_store_by 62 (.tmp 35) (.tmp 31) rfl _ _ rfl rfl s2 ?_
      refine hK.out _ _ (b2) (fun hHeld => ?_)
      clear hK K'
      try simp only [Act.put, List.getElem_toArray, List.getElem_cons_succ, List.getElem_cons_zero, List.setIfInBounds_toArray, List.set_cons_zero, List.set_cons_succ]
      refine wpAnyH_done (by kernel_rfl) ?_ _
      clear s1 s2 b1 b2 b64 j0 j1 j2
      go_wp2_with fail
      go_ret
      exact HFIN.out
    · have gE : (E == 0) = false := by simp [hE]
      have FIN := HPOST.out V HV.out (by rw [if_neg hE]; exact HJV.out) (HKV.out.more (by simp))
      have HFIN : Hid (MovePost w p B n cap q f1 f2 k bg num en all ss cut (E, en2, t) (.returned (.int .i64 E)) V) := FIN
      clear FIN fV kV jV bV hok hE
      go_wp2_with fail
      go_ret
      exact HFIN.out
  · rw [if_pos (by rfl)]
    simp only [List.getElem_toArray, List.getElem_cons_succ, List.getElem_cons_zero]
    go_wp2_with fail
    refine hK.out _ _ (⟨KXa.cell x6 (nq ()), KXa.cell x7 (nq ()), KXa.cell x8 (nq ()), KXa.cell x4 (nq ()), (KXa.block z (by omega) (nz ())).trans gX'⟩) (fun hHeld => ?_)
    clear hK K'
    try simp only [Act.put, List.getElem_toArray, List.getElem_cons_succ, List.getElem_cons_zero, List.setIfInBounds_toArray, List.set_cons_zero, List.set_cons_succ]
    refine wpAnyH_ready (rs := [11]) (by kernel_rfl) (by simp) ?_
    refine AllReadyH.cons rfl (fun K' hK => ?_) AllReadyH.nil
    rw [if_pos (by rfl)]
    simp only [List.getElem_toArray, List.getElem_cons_succ, List.getElem_cons_zero]
    go_wp2_with fail
    refine (FL.out _ (Below.drew (bX.alloc (by omega) _))).mono ?_
    rintro e U ⟨⟨hp, hf, hk', hb, hn, he, rfl, hok⟩, hF1, hK1⟩
    try go_wp2_with fail
    have KU : Kp [p, B] X U := (((Kp.refl _ _).drew).al _).trans hK1
    have uf : U.heap[X.heap.size]? = some (.cells zero6 64 (0, 0)) := (hK1.block _ (by simp) (by simp; omega)).trans (heap_alloc_new X _)
    have S6 := store6 uf hp hf hk' hb hn he
    have KV : Kp [p, B] X (U.setRow X.heap.size #[.pointer hp, .int .i64 hf, .int .i64 hk', .bool hb, .int .u8 hn, .int .i64 he]) := KU.row _ _ (.inr (Nat.le_refl _))
    have bV : (U.setRow X.heap.size #[.pointer hp, .int .i64 hf, .int .i64 hk', .bool hb, .int .u8 hn, .int .i64 he]).heap[X.heap.size]? = some (.cells #[.pointer hp, .int .i64 hf, .int .i64 hk', .bool hb, .int .u8 hn, .int .i64 he] 64 (0, 0)) := setRow_heap _ _ _ _ _ _ uf
    have fV : IsS (U.setRow X.heap.size #[.pointer hp, .int .i64 hf, .int .i64 hk', .bool hb, .int .u8 hn, .int .i64 he]) p B n cap t := hF1.kp ((Kp.refl [X.heap.size] _).row _ _ (.inl (by simp))) (by simp; omega) (by simp; omega)
    have jV : JB (U.setRow X.heap.size #[.pointer hp, .int .i64 hf, .int .i64 hk', .bool hb, .int .u8 hn, .int .i64 he]) q p f1 f2 k bg num en all ss cut := (KV.block q (by omega) (by simp [hqp, hqB])).trans HX.out
    have kV : Kp [p, B] w (U.setRow X.heap.size #[.pointer hp, .int .i64 hf, .int .i64 hk', .bool hb, .int .u8 hn, .int .i64 he]) := (wX.more (by simp)).trans KV
    refine hK.out _ _ (⟨KU.cell x6 (nq ()), KU.cell x7 (nq ()), KU.cell x8 (nq ()), KU.cell x4 (nq ()), (KU.block z (by omega) (nz ())).trans gX'⟩) (fun hHeld => ?_)
    clear hK K'
    try simp only [Act.put, List.getElem_toArray, List.getElem_cons_succ, List.getElem_cons_zero, List.setIfInBounds_toArray, List.set_cons_zero, List.set_cons_succ]
    refine wpAnyH_take (i := 12) (v := (.tuple #[.agg #[.pointer hp, .int .i64 hf, .int .i64 hk', .bool hb, .int .u8 hn, .int .i64 he], .int .i64 E])) rfl (by kernel_rfl) (by kernel_rfl) (by kernel_rfl) (fun _ _ _ h => h) (Or.inl ⟨by rfl, ?_⟩) (by assumption) ?_
    · intro w9 hSw
      try dsimp only at hSw
      go_simp
      all_goals try decide
      all_goals try assumption
      all_goals try omega
    try simp only [Act.put, List.getElem_toArray, List.getElem_cons_succ, List.getElem_cons_zero, List.setIfInBounds_toArray, List.set_cons_zero, List.set_cons_succ]
    refine wpAnyH_take (i := 13) (v := (.agg #[.pointer hp, .int .i64 hf, .int .i64 hk', .bool hb, .int .u8 hn, .int .i64 he])) rfl (by kernel_rfl) (by kernel_rfl) (by kernel_rfl) (fun _ _ _ h => h) (Or.inl ⟨by rfl, ?_⟩) (by assumption) ?_
    · intro w9 hSw
      try dsimp only at hSw
      go_simp
      all_goals try decide
      all_goals try assumption
      all_goals try omega
    try simp only [Act.put, List.getElem_toArray, List.getElem_cons_succ, List.getElem_cons_zero, List.setIfInBounds_toArray, List.set_cons_zero, List.set_cons_succ]
    refine wpAnyH_take (i := 14) (v := (.int .i64 E)) rfl (by kernel_rfl) (by kernel_rfl) (by kernel_rfl) (fun _ _ _ h => h) (Or.inl ⟨by rfl, ?_⟩) (by assumption) ?_
    · intro w9 hSw
      try dsimp only at hSw
      go_simp
      all_goals try decide
      all_goals try assumption
      all_goals try omega
    try simp only [Act.put, List.getElem_toArray, List.getElem_cons_succ, List.getElem_cons_zero, List.setIfInBounds_toArray, List.set_cons_zero, List.set_cons_succ]
    refine wpAnyH_ready (rs := [16]) (by kernel_rfl) (by simp) ?_
    refine AllReadyH.cons rfl (fun K' hK => ?_) AllReadyH.nil
    rw [if_pos (by rfl)]
    simp only [List.getElem_toArray, List.getElem_cons_succ, List.getElem_cons_zero]
    refine wp_store_by 64 (.tmp 5) (.tmp 20) rfl _ _ rfl rfl S6 ?_
    refine hK.out _ _ (⟨KV.cell x6 (nq ()), KV.cell x7 (nq ()), KV.cell x8 (nq ()), KV.cell x4 (nq ()), (KV.block z (by omega) (nz ())).trans gX'⟩) (fun hHeld => ?_)
    clear hK K'
    try simp only [Act.put, List.getElem_toArray, List.getElem_cons_succ, List.getElem_cons_zero, List.setIfInBounds_toArray, List.set_cons_zero, List.set_cons_succ]
    refine wpAnyH_take (i := 17) (v := (.int .i64 E)) rfl (by kernel_rfl) (by kernel_rfl) (by kernel_rfl) (fun _ _ _ h => h) (Or.inl ⟨by rfl, ?_⟩) (by assumption) ?_
    · intro w9 hSw
      try dsimp only at hSw
      go_simp
      all_goals try decide
      all_goals try assumption
      all_goals try omega
    try simp only [Act.put, List.getElem_toArray, List.getElem_cons_succ, List.getElem_cons_zero, List.setIfInBounds_toArray, List.set_cons_zero, List.set_cons_succ]
    refine wpAnyH_done (by kernel_rfl) ?_ _
    clear KU KV S6 hF1 hK1 uf
    clear x6 x7 x8 x4 gX' FL LG
    generalize (U.setRow X.heap.size #[.pointer hp, .int .i64 hf, .int .i64 hk', .bool hb, .int .u8 hn, .int .i64 he]) = V at *
    generalize X.heap.size = fb at *
    have HV : Hid (IsS V p B n cap t) := fV
    have HKV : Hid (Kp [p, B] w V) := kV
    have HJV : Hid (JB V q p f1 f2 k bg num en all ss cut) := jV
    by_cases hE : E = 0
    · obtain ⟨rfl, rfl, rfl, rfl, rfl, rfl⟩ := hok hE
      subst hE
      have b64 : V.heap[fb]? = some (.cells (half6 p f2 k true hn en2).toArray 64 (0, 0)) := bV
      have j0 := jV.c0
      have j1 := jV.c1
      have j2 := jV.c2
      have jD : JB V.drew q p f1 f2 k bg num en all ss cut := jV
      obtain ⟨w1, s1, J1, k1⟩ := jD.putHalf h1 h2 f2 true hn en2
      obtain ⟨w2, s2, J2, k2⟩ := J1.putSpare h1 h2 f1
      have nfq : fb ≠ q := fun e => by rw [e, jV] at b64; simp at b64
      have b1 : w1.heap[fb]? = _ := (k1.block fb (lt_of_heap b64) (by simpa using nfq)).trans b64
      have b2 : w2.heap[fb]? = _ := (k2.block fb (lt_of_heap b1) (by simpa using nfq)).trans b1
      have KK : Kp [q] V w2 := ((Kp.refl _ _).drew.trans k1).trans k2
      have FIN := HPOST.out w2 (HV.out.kp KK (by simpa using Ne.symm hqp) (by simpa using Ne.symm hqB)) (by rw [if_pos rfl]; exact J2) ((HKV.out.more (by simp)).trans (KK.more (by simp)))
      have HFIN : Hid (MovePost w p B n cap q f1 f2 k bg num en all ss cut (0, en2, t) (.returned (.int .i64 0)) w2) := FIN
      clear FIN KK J1 J2 k1 k2 fV kV jV bV jD hok
      go_wp2_with fail
      refine wp_region_held_drew (S := fun x => x.heap[fb]? = some (.cells (half6 p f2 k true hn en2).toArray 64 (0, 0))) (by kernel_rfl) (b64) (fun hHeld => ?_)
      refine wpAnyH_take (i := 0) (v := (.pointer (some ⟨q, 0, none⟩))) rfl (by kernel_rfl) (by kernel_rfl) (by kernel_rfl) (fun _ _ _ h => h) (Or.inl ⟨by rfl, ?_⟩) (by assumption) ?_
      · intro w9 hSw
        try dsimp only at hSw
        go_simp
        all_goals try decide
        all_goals try assumption
        all_goals try omega
      try simp only [Act.put, List.getElem_toArray, List.getElem_cons_succ, List.getElem_cons_zero, List.setIfInBounds_toArray, List.set_cons_zero, List.set_cons_succ]
      refine wpAnyH_take (i := 1) (v := (.pointer (some ⟨q, 0, none⟩))) rfl (by kernel_rfl) (by kernel_rfl) (by kernel_rfl) (fun _ _ _ h => h) (Or.inl ⟨by rfl, ?_⟩) (by assumption) ?_
      · intro w9 hSw
        try dsimp only at hSw
        go_simp
        all_goals try decide
        all_goals try assumption
        all_goals try omega
      try simp only [Act.put, List.getElem_toArray, List.getElem_cons_succ, List.getElem_cons_zero, List.setIfInBounds_toArray, List.set_cons_zero, List.set_cons_succ]
      refine wpAnyH_take (i := 2) (v := (.agg (half6 p f2 k true hn en2).toArray)) rfl (by kernel_rfl) (by kernel_rfl) (by kernel_rfl) (fun _ _ _ h => h) (Or.inl ⟨by rfl, ?_⟩) (by assumption) ?_
      · intro w9 hSw
        try dsimp only at hSw
        exact ex_load 64 (.tmp 5) rfl _ _ rfl (load64 hSw)
      try simp only [Act.put, List.getElem_toArray, List.getElem_cons_succ, List.getElem_cons_zero, List.setIfInBounds_toArray, List.set_cons_zero, List.set_cons_succ]
      refine wpAnyH_take (i := 3) (v := (.pointer (some ⟨q, 0, none⟩))) rfl (by kernel_rfl) (by kernel_rfl) (by kernel_rfl) (fun _ _ _ h => h) (Or.inl ⟨by rfl, ?_⟩) (by assumption) ?_
      · intro w9 hSw
        try dsimp only at hSw
        go_simp
        all_goals try decide
        all_goals try assumption
        all_goals try omega
      try simp only [Act.put, List.getElem_toArray, List.getElem_cons_succ, List.getElem_cons_zero, List.setIfInBounds_toArray, List.set_cons_zero, List.set_cons_succ]
      refine wpAnyH_take (i := 4) (v := (.pointer (some ⟨q, 0, none⟩))) rfl (by kernel_rfl) (by kernel_rfl) (by kernel_rfl) (fun _ _ _ h => h) (Or.inl ⟨by rfl, ?_⟩) (by assumption) ?_
      · intro w9 hSw
        try dsimp only at hSw
        go_simp
        all_goals try decide
        all_goals try assumption
        all_goals try omega
      try simp only [Act.put, List.getElem_toArray, List.getElem_cons_succ, List.getElem_cons_zero, List.setIfInBounds_toArray, List.set_cons_zero, List.set_cons_succ]
      refine wpAnyH_take (i := 5) (v := (.pointer (some ⟨q, 0, none⟩))) rfl (by kernel_rfl) (by kernel_rfl) (by kernel_rfl) (fun _ _ _ h => h) (Or.inl ⟨by rfl, ?_⟩) (by assumption) ?_
      · intro w9 hSw
        try dsimp only at hSw
        go_simp
        all_goals try decide
        all_goals try assumption
        all_goals try omega
      try simp only [Act.put, List.getElem_toArray, List.getElem_cons_succ, List.getElem_cons_zero, List.setIfInBounds_toArray, List.set_cons_zero, List.set_cons_succ]
      refine wpAnyH_take (i := 6) (v := (.pointer (some ⟨q, 0, none⟩))) rfl (by kernel_rfl) (by kernel_rfl) (by kernel_rfl) (fun _ _ _ h => h) (Or.inl ⟨by rfl, ?_⟩) (by assumption) ?_
      · intro w9 hSw
        try dsimp only at hSw
        go_simp
        all_goals try decide
        all_goals try assumption
        all_goals try omega
      try simp only [Act.put, List.getElem_toArray, List.getElem_cons_succ, List.getElem_cons_zero, List.setIfInBounds_toArray, List.set_cons_zero, List.set_cons_succ]
      refine wpAnyH_ready (rs := [7]) (by kernel_rfl) (by simp) ?_
      refine AllReadyH.cons rfl (fun K' hK => ?_) AllReadyH.nil
      rw [if_pos (by rfl)]
      simp only [List.getElem_toArray, List.getElem_cons_succ, List.getElem_cons_zero]
      go_wp2_with fail
      refine hK.out _ _ (b64) (fun hHeld => ?_)
      clear hK K'
      try simp only [Act.put, List.getElem_toArray, List.getElem_cons_succ, List.getElem_cons_zero, List.setIfInBounds_toArray, List.set_cons_zero, List.set_cons_succ]
      refine wpAnyH_take (i := 8) (v := (.pointer (some ⟨q, 0, none⟩))) rfl (by kernel_rfl) (by kernel_rfl) (by kernel_rfl) (fun _ _ _ h => h) (Or.inl ⟨by rfl, ?_⟩) (by assumption) ?_
      · intro w9 hSw
        try dsimp only at hSw
        go_simp
        all_goals try decide
        all_goals try assumption
        all_goals try omega
      try simp only [Act.put, List.getElem_toArray, List.getElem_cons_succ, List.getElem_cons_zero, List.setIfInBounds_toArray, List.set_cons_zero, List.set_cons_succ]
      refine wpAnyH_take (i := 9) (v := (.pointer (some ⟨q, 0, none⟩))) rfl (by kernel_rfl) (by kernel_rfl) (by kernel_rfl) (fun _ _ _ h => h) (Or.inl ⟨by rfl, ?_⟩) (by assumption) ?_
      · intro w9 hSw
        try dsimp only at hSw
        go_simp
        all_goals try decide
        all_goals try assumption
        all_goals try omega
      try simp only [Act.put, List.getElem_toArray, List.getElem_cons_succ, List.getElem_cons_zero, List.setIfInBounds_toArray, List.set_cons_zero, List.set_cons_succ]
      refine wpAnyH_ready (rs := [10]) (by kernel_rfl) (by simp) ?_
      refine AllReadyH.cons rfl (fun K' hK => ?_) AllReadyH.nil
      rw [if_pos (by rfl)]
      simp only [List.getElem_toArray, List.getElem_cons_succ, List.getElem_cons_zero]
      refine wp_store_by 64 (.tmp 33) (.tmp 26) rfl _ _ rfl rfl s1 ?_
      refine hK.out _ _ (b1) (fun hHeld => ?_)
      clear hK K'
      try simp only [Act.put, List.getElem_toArray, List.getElem_cons_succ, List.getElem_cons_zero, List.setIfInBounds_toArray, List.set_cons_zero, List.set_cons_succ]
      refine wpAnyH_take (i := 11) (v := (.pointer (some ⟨q, 0, none⟩))) rfl (by kernel_rfl) (by kernel_rfl) (by kernel_rfl) (fun _ _ _ h => h) (Or.inl ⟨by rfl, ?_⟩) (by assumption) ?_
      · intro w9 hSw
        try dsimp only at hSw
        go_simp
        all_goals try decide
        all_goals try assumption
        all_goals try omega
      try simp only [Act.put, List.getElem_toArray, List.getElem_cons_succ, List.getElem_cons_zero, List.setIfInBounds_toArray, List.set_cons_zero, List.set_cons_succ]
      refine wpAnyH_take (i := 12) (v := (.pointer (some ⟨q, 6, none⟩))) rfl (by kernel_rfl) (by kernel_rfl) (by kernel_rfl) (fun _ _ _ h => h) (Or.inl ⟨by rfl, ?_⟩) (by assumption) ?_
      · intro w9 hSw
        try dsimp only at hSw
        go_simp
        all_goals try decide
        all_goals try assumption
        all_goals try omega
      try simp only [Act.put, List.getElem_toArray, List.getElem_cons_succ, List.getElem_cons_zero, List.setIfInBounds_toArray, List.set_cons_zero, List.set_cons_succ]
      refine wpAnyH_ready (rs := [13]) (by kernel_rfl) (by simp) ?_
      refine AllReadyH.cons rfl (fun K' hK => ?_) AllReadyH.nil
      rw [if_pos (by rfl)]
      simp only [List.getElem_toArray, List.getElem_cons_succ, List.getElem_cons_zero]
      refine wp_store_by 62 (.tmp 35) (.tmp 31) rfl _ _ rfl rfl s2 ?_
      refine hK.out _ _ (b2) (fun hHeld => ?_)
      clear hK K'
      try simp only [Act.put, List.getElem_toArray, List.getElem_cons_succ, List.getElem_cons_zero, List.setIfInBounds_toArray, List.set_cons_zero, List.set_cons_succ]
      refine wpAnyH_done (by kernel_rfl) ?_ _
      clear s1 s2 b1 b2 b64 j0 j1 j2
      go_wp2_with fail
      go_ret
      exact HFIN.out
    · have gE : (E == 0) = false := by simp [hE]
      have FIN := HPOST.out V HV.out (by rw [if_neg hE]; exact HJV.out) (HKV.out.more (by simp))
      have HFIN : Hid (MovePost w p B n cap q f1 f2 k bg num en all ss cut (E, en2, t) (.returned (.int .i64 E)) V) := FIN
      clear FIN fV kV jV bV hok hE
      go_wp2_with fail
      go_ret
      exact HFIN.out
#print axioms move_any
end Go.Proofs.Ytgpbmccjcjoijaa
