/-
  The walk of Store.
-/
import Derived.Test.YtgpbmccjcjoijaaJv
namespace Go.Proofs.Ytgpbmccjcjoijaa
open Go.RowKit

/-- A group stored: what is answered, the journal behind it, the flash. -/
def storeJ (n first k : Nat) (j : JS) (g : Int) (bs : List Int) (s : FS) : Int × JS × FS :=
  if 16 ≤ g then (62, j, s) else if 4096 < bs.length then (3, j, s) else if j.cut || s.of then (7, { j with cut := true }, s)
  else if 1024 * k < roomG (take1 j.all ⟨2, g, bs⟩) + 16 then (60, j, s) else keepJ n first k j ⟨2, g, bs⟩ (take1 j.all ⟨2, g, bs⟩) s
theorem storeJ_g {n first k : Nat} {j : JS} {g : Int} {bs : List Int} {s : FS} (h : 16 ≤ g) : storeJ n first k j g bs s = (62, j, s) := by unfold storeJ; rw [if_pos h]
theorem storeJ_l {n first k : Nat} {j : JS} {g : Int} {bs : List Int} {s : FS} (h : ¬ 16 ≤ g) (h2 : 4096 < bs.length) : storeJ n first k j g bs s = (3, j, s) := by unfold storeJ; rw [if_neg h, if_pos h2]
theorem storeJ_c {n first k : Nat} {j : JS} {g : Int} {bs : List Int} {s : FS} (h : ¬ 16 ≤ g) (h2 : ¬ 4096 < bs.length) (h3 : (j.cut || s.of) = true) : storeJ n first k j g bs s = (7, { j with cut := true }, s) := by unfold storeJ; rw [if_neg h, if_neg h2, if_pos h3]
theorem storeJ_f {n first k : Nat} {j : JS} {g : Int} {bs : List Int} {s : FS} (h : ¬ 16 ≤ g) (h2 : ¬ 4096 < bs.length) (h3 : (j.cut || s.of) = false) (h4 : 1024 * k < roomG (take1 j.all ⟨2, g, bs⟩) + 16) : storeJ n first k j g bs s = (60, j, s) := by unfold storeJ; rw [if_neg h, if_neg h2, if_neg (by rw [h3]; decide), if_pos h4]
theorem storeJ_k {n first k : Nat} {j : JS} {g : Int} {bs : List Int} {s : FS} (h : ¬ 16 ≤ g) (h2 : ¬ 4096 < bs.length) (h3 : (j.cut || s.of) = false) (h4 : ¬ 1024 * k < roomG (take1 j.all ⟨2, g, bs⟩) + 16) : storeJ n first k j g bs s = keepJ n first k j ⟨2, g, bs⟩ (take1 j.all ⟨2, g, bs⟩) s := by unfold storeJ; rw [if_neg h, if_neg h2, if_neg (by rw [h3]; decide), if_neg h4]
def zero3 : Array Value := #[.int .u8 0, .int .u8 0, .slice none 0 0]
theorem run_alloc79 (W : World) : (Instr.alloc 79 true (.tuple #[])).run Try.prog W = .ok (.pointer (some ⟨W.heap.size, 0, none⟩)) (W.alloc (.cells zero3 79)) := by kernel_rfl
theorem ex_alloc79 {o : Oper} {a : Act} {w : World} (ho : o.op = .alloc 79) : (execOp a.eval o).run Try.prog w = .ok (.value (.pointer (some ⟨w.heap.size, 0, none⟩))) (w.alloc (.cells zero3 79)) := by
  simp only [execOp, ho, Sem.run_bind, Sem.run_pure, Result.andThen_ok, run_alloc79]
theorem size79 : (Try.prog.info? 79).map (·.size) = some 3 := by kernel_rfl
theorem store79 {W : World} {rb : Nat} (h : W.heap[rb]? = some (.cells zero3 79 (0, 0))) (x y : Int) (a : Option Addr) (l c : Nat) : (storeVar 79 ⟨rb, 0, none⟩ (.agg #[.int .u8 x, .int .u8 y, .slice a l c])).run Try.prog W = .ok () (W.setRow rb #[.int .u8 x, .int .u8 y, .slice a l c]) := by
  have := store_part 79 3 size79 W rb 0 zero3 _ h [.int .u8 x, .int .u8 y, .slice a l c] rfl (by simp [zero3]) (fun v hv => by simp only [List.mem_cons, List.not_mem_nil, or_false] at hv; rcases hv with rfl | rfl | rfl <;> rfl)
  exact this
theorem IsG.less {w : World} {S S' : List Nat} {all : List Gp} {ss : List SL} (h : IsG w S' all ss) (hs : ∀ x ∈ S, x ∈ S') : IsG w S all ss := ⟨h.n1, h.n2, fun i g s h1 h2 => by
  obtain ⟨r, l, b⟩ := h.row i g s h1 h2
  exact ⟨r, l, fun hp bl off e hm => b hp bl off e (hs _ hm)⟩⟩
theorem drewH (w : World) : w.drew.heap = w.heap := rfl
theorem wrap_room (k : Nat) (h1 : 1 ≤ k) (h : k ≤ 1000) : IntKind.i64.wrap (1024 * (k : Int) - 16) = 1024 * (k : Int) - 16 := by
  simp [IntKind.wrap, IntKind.bits, IntKind.signed]; omega
theorem rm_one : rm 1 = 16 := rfl

set_option linter.unusedSimpArgs false in
set_option maxHeartbeats 8000000 in
set_option maxRecDepth 100000 in
theorem store_any {w : World} {p B n cap : Nat} {s : FS} (hF : IsS w p B n cap s) (m : Nat) (hm : s.Le m) (hm2 : m ≤ 700000000) {q first k : Nat} {j : JS} {S : List Nat} (hJ : IsJ w S q p first k j) (hOk : j.Ok k) (hqp : q ≠ p) (hqB : q ≠ B) (hk : 1 ≤ k) (hk2 : k ≤ 1000) (hfk : first + k + k ≤ n) (hpS : p ∈ S) (hBS : B ∈ S) (hqS : q ∈ S) (hS : ∀ x ∈ S, x < w.heap.size) (g : Int) (hg0 : 0 ≤ g) (bs : List Int) (a : Option Addr) (l cap2 : Nat) (hrow : Row w a l bs) (hl : l ≤ 1000000000) (hrS : 0 < l → ∀ b off, a = some ⟨b, off, none⟩ → b ∉ S) :
    Calls Try.prog 17 #[.pointer (some ⟨q, 0, none⟩), .int .u8 g, .slice a l cap2] w fun e w' => KeepPost w p B n cap q first k S (storeJ n first k j g bs s) e w' := by
  have hlt := hF.lt
  have hsz := hrow.size
  have HJ0 : Hid (IsJ w S q p first k j) := hJ
  obtain ⟨ss, hB, hI⟩ := hJ
  have hB : JB w q p (j.f1 first k) (j.f2 first k) k j.bg j.num j.en j.all ss j.cut := hB
  have HB0 : Hid (JB w q p (j.f1 first k) (j.f2 first k) k j.bg j.num j.en j.all ss j.cut) := hB
  have hq : q < w.heap.size := lt_of_heap hB
  obtain ⟨R, hR⟩ : ∃ R, Hid (storeJ n first k j g bs s = R) := ⟨_, rfl⟩
  rw [hR.out]
  have HF0 : Hid (IsS w p B n cap s) := hF
  by_cases hg : 16 ≤ g
  · have HFIN : Hid (KeepPost w p B n cap q first k S R (.returned (.int .i64 62)) w) := by
      rw [← hR.out, storeJ_g hg]; exact ⟨rfl, HF0.out, HJ0.out, Kp.refl _ _⟩
    clear hB hI hrow hF hS hrS
    go_enter Try.func17, Try.ntmps17
    go_wp2_with fail
    go_ret
    exact HFIN.out
  by_cases hl2 : 4096 < bs.length
  · have HFIN : Hid (KeepPost w p B n cap q first k S R (.returned (.int .i64 3)) w) := by
      rw [← hR.out, storeJ_l hg hl2]; exact ⟨rfl, HF0.out, HJ0.out, Kp.refl _ _⟩
    have hl3 : (4096 : Int) < (l : Int) := by omega
    clear hB hI hrow hF hS hrS
    go_enter Try.func17, Try.ntmps17
    go_wp2_with fail
    go_ret
    exact HFIN.out
  have GN := gone_any hF hB hI.n1 hI.n2
  have hl3 : ¬ (4096 : Int) < (l : Int) := by omega
  have HI0 : Hid (IsG w S j.all ss) := hI
  have HR0 : Hid (Row w a l bs) := hrow
  have HRS : Hid (0 < l → ∀ b off, a = some ⟨b, off, none⟩ → b ∉ S) := hrS
  have HS : Hid (∀ x ∈ S, x < w.heap.size) := hS
  have H1 : Hid (g < 16) := Int.not_le.1 hg
  have H2 : Hid (bs.length ≤ 4096) := Nat.not_lt.1 hl2
  have qS : Hid (∀ x ∈ [q], x ∈ S) := fun x hx => by simp at hx; subst hx; exact hqS
  clear hB hI hrow hF hS hrS
  go_enter Try.func17, Try.ntmps17
  go_wp2_with fail
  with_reducible refine GN.mono ?_
  rintro e U ⟨rfl, hJU, hKU⟩
  clear GN
  have HJU : Hid (JB U q p (j.f1 first k) (j.f2 first k) k j.bg j.num j.en j.all ss (j.cut || s.of)) := hJU
  have HKU : Hid (Kp [q] w U) := hKU
  have HIU : Hid (IsG U S j.all ss) := HI0.out.kp hKU qS.out
  have HFU : Hid (IsS U p B n cap s) := HF0.out.kp hKU (by simpa using Ne.symm hqp) (by simpa using Ne.symm hqB)
  clear hJU hKU
  by_cases hc : (j.cut || s.of) = true
  · have HFIN : Hid (KeepPost w p B n cap q first k S R (.returned (.int .i64 7)) U) := by
      rw [← hR.out, storeJ_c (Int.not_le.2 H1.out) (Nat.not_lt.2 H2.out) hc]
      exact ⟨rfl, HFU.out, ⟨ss, by have := HJU.out; rw [hc] at this; exact this, HIU.out⟩, HKU.out.more (by simp)⟩
    rw [hc]
    clear HJU
    go_wp2_with fail
    go_ret
    exact HFIN.out
  have hc : (j.cut || s.of) = false := by simpa using hc
  have hcj : j.cut = false := by revert hc; cases j.cut <;> simp
  rw [hc] at HJU
  rw [hc]
  have HC : Hid ((j.cut || s.of) = false) := hc
  have HCJ : Hid (j.cut = false) := hcj
  clear hc hcj
  have KU := HKU.out
  have uq : q < U.heap.size := by have := KU.size; omega
  have jU := HJU.out
  have rU : Row U a l bs := HR0.out.kp' KU (fun h b off e hm => HRS.out h b off e (qS.out b hm))
  have hle : bs.length ≤ 4096 := by omega
  have rOk : Hid (Rec.Ok ⟨2, g, bs⟩) := ⟨by show (0:Int) ≤ 2; decide, by show (2:Int) < 256; decide, hg0, by show g < 16; omega, rU.oct, hle⟩
  have HrU : Hid (Row U a l bs) := rU
  have zU : w.heap.size ≤ U.heap.size := KU.size
  obtain ⟨C, hC⟩ : ∃ C, Hid ((gflat j.all ss).toArray = C) := ⟨_, rfl⟩
  have n1 : Hid (j.all.length = 16) := HIU.out.n1
  have n2 : Hid (ss.length = 16) := HIU.out.n2
  have LJ : Hid (∀ x, JB x q p (j.f1 first k) (j.f2 first k) k j.bg j.num j.en j.all ss false → (loadVar 68 ⟨q, 9, none⟩).run Try.prog x = .ok (.agg C) x) := fun x h => by rw [← hC.out]; exact h.load68 n1.out n2.out
  clear rU KU
  go_wp2_with fail
  refine wp_region_held_drew (S := fun x => JB x q p (j.f1 first k) (j.f2 first k) k j.bg j.num j.en j.all ss false) (by kernel_rfl) (jU) (fun hHeld => ?_)
  refine wpAnyH_take (i := 0) (v := (.int .u8 g)) rfl (by kernel_rfl) (by kernel_rfl) (by kernel_rfl) (fun _ _ _ h => h) (Or.inl ⟨by rfl, ?_⟩) (by assumption) ?_
  · intro w9 hSw
    try dsimp only at hSw
    go_simp
    all_goals try decide
    all_goals try assumption
    all_goals try omega
  try simp only [Act.put, List.getElem_toArray, List.getElem_cons_succ, List.getElem_cons_zero, List.setIfInBounds_toArray, List.set_cons_zero, List.set_cons_succ]
  refine wpAnyH_take (i := 1) (v := (.slice a l cap2)) rfl (by kernel_rfl) (by kernel_rfl) (by kernel_rfl) (fun _ _ _ h => h) (Or.inl ⟨by rfl, ?_⟩) (by assumption) ?_
  · intro w9 hSw
    try dsimp only at hSw
    go_simp
    all_goals try decide
    all_goals try assumption
    all_goals try omega
  try simp only [Act.put, List.getElem_toArray, List.getElem_cons_succ, List.getElem_cons_zero, List.setIfInBounds_toArray, List.set_cons_zero, List.set_cons_succ]
  refine wpAnyH_take (i := 2) (v := (.agg #[.int .u8 2, .int .u8 g, .slice a l cap2])) rfl (by kernel_rfl) (by kernel_rfl) (by kernel_rfl) (fun _ _ _ h => h) (Or.inl ⟨by rfl, ?_⟩) (by assumption) ?_
  · intro w9 hSw
    try dsimp only at hSw
    go_simp
    all_goals try decide
    all_goals try assumption
    all_goals try omega
  try simp only [Act.put, List.getElem_toArray, List.getElem_cons_succ, List.getElem_cons_zero, List.setIfInBounds_toArray, List.set_cons_zero, List.set_cons_succ]
  refine wpAnyH_take (i := 3) (v := (.pointer (some ⟨q, 0, none⟩))) rfl (by kernel_rfl) (by kernel_rfl) (by kernel_rfl) (fun _ _ _ h => h) (Or.inl ⟨by rfl, ?_⟩) (by assumption) ?_
  · intro w9 hSw
    try dsimp only at hSw
    go_simp
    all_goals try decide
    all_goals try assumption
    all_goals try omega
  try simp only [Act.put, List.getElem_toArray, List.getElem_cons_succ, List.getElem_cons_zero, List.setIfInBounds_toArray, List.set_cons_zero, List.set_cons_succ]
  refine wpAnyH_take (i := 4) (v := (.pointer (some ⟨q, 0, none⟩))) rfl (by kernel_rfl) (by kernel_rfl) (by kernel_rfl) (fun _ _ _ h => h) (Or.inl ⟨by rfl, ?_⟩) (by assumption) ?_
  · intro w9 hSw
    try dsimp only at hSw
    go_simp
    all_goals try decide
    all_goals try assumption
    all_goals try omega
  try simp only [Act.put, List.getElem_toArray, List.getElem_cons_succ, List.getElem_cons_zero, List.setIfInBounds_toArray, List.set_cons_zero, List.set_cons_succ]
  refine wpAnyH_take (i := 5) (v := (.pointer (some ⟨q, 9, none⟩))) rfl (by kernel_rfl) (by kernel_rfl) (by kernel_rfl) (fun _ _ _ h => h) (Or.inl ⟨by rfl, ?_⟩) (by assumption) ?_
  · intro w9 hSw
    try dsimp only at hSw
    go_simp
    all_goals try decide
    all_goals try assumption
    all_goals try omega
  try simp only [Act.put, List.getElem_toArray, List.getElem_cons_succ, List.getElem_cons_zero, List.setIfInBounds_toArray, List.set_cons_zero, List.set_cons_succ]
  refine wpAnyH_take (i := 6) (v := (.agg C)) rfl (by kernel_rfl) (by kernel_rfl) (by kernel_rfl) (fun _ _ _ h => h) (Or.inl ⟨by rfl, ?_⟩) (by assumption) ?_
  · intro w9 hSw
    try dsimp only at hSw
    exact ex_load 68 (.tmp 27) rfl _ _ rfl (LJ.out _ hSw)
  try simp only [Act.put, List.getElem_toArray, List.getElem_cons_succ, List.getElem_cons_zero, List.setIfInBounds_toArray, List.set_cons_zero, List.set_cons_succ]
  refine wpAnyH_ready (rs := [7, 8]) (by kernel_rfl) (by simp) ?_
  refine AllReadyH.cons rfl (fun K' hK => ?_) (AllReadyH.cons rfl (fun K' hK => ?_) AllReadyH.nil)
  · rw [if_pos (by rfl)]
    simp only [List.getElem_toArray, List.getElem_cons_succ, List.getElem_cons_zero]
    have K1 : Kp [] U (U.drew.alloc (.cells zero3 79)) := ((Kp.refl _ _).drew).al _
    have K2 : Kp [] U ((U.drew.alloc (.cells zero3 79)).alloc (.cells z48 68)) := K1.al _
    have K3 : Kp [] U (((U.drew.alloc (.cells zero3 79)).alloc (.cells z48 68)).setRow U.heap.size #[.int .u8 2, .int .u8 g, .slice a l cap2]) := K2.row _ _ (.inr (by omega))
    have K4 : Kp [] U ((((U.drew.alloc (.cells zero3 79)).alloc (.cells z48 68)).setRow U.heap.size #[.int .u8 2, .int .u8 g, .slice a l cap2]).setRow (U.heap.size + 1) C) := K3.row _ _ (.inr (by omega))
    have h2 : ((U.drew.alloc (.cells zero3 79)).alloc (.cells z48 68)).heap[U.heap.size + 1]? = some (.cells z48 68 (0, 0)) := by
      have := heap_alloc_new (U.drew.alloc (.cells zero3 79)) (.cells z48 68)
      rwa [World.size_alloc] at this
    have h1 : ((U.drew.alloc (.cells zero3 79)).alloc (.cells z48 68)).heap[U.heap.size]? = some (.cells zero3 79 (0, 0)) := by
      rw [Below.heap_alloc _ _ _ (by simp)]; exact heap_alloc_new U.drew _
    have S3 := store79 h1 2 g a l cap2
    have g1 : (((U.drew.alloc (.cells zero3 79)).alloc (.cells z48 68)).setRow U.heap.size #[.int .u8 2, .int .u8 g, .slice a l cap2]).heap[(U.heap.size + 1)]? = some (.cells z48 68 (0, 0)) := (((Kp.refl [U.heap.size] _).row _ _ (.inl (by simp))).block _ (lt_of_heap h2) (by simp)).trans h2
    have S48 := store68 (by rfl) g1 j.all ss n1.out n2.out
    rw [hC.out] at S48
    have gV : ((((U.drew.alloc (.cells zero3 79)).alloc (.cells z48 68)).setRow U.heap.size #[.int .u8 2, .int .u8 g, .slice a l cap2]).setRow (U.heap.size + 1) C).heap[(U.heap.size + 1)]? = some (.cells C 68 (0, 0)) := setRow_heap _ _ _ _ _ _ g1
    have r1 : (((U.drew.alloc (.cells zero3 79)).alloc (.cells z48 68)).setRow U.heap.size #[.int .u8 2, .int .u8 g, .slice a l cap2]).heap[U.heap.size]? = some (.cells #[.int .u8 2, .int .u8 g, .slice a l cap2] 79 (0, 0)) := setRow_heap _ _ _ _ _ _ h1
    have rV : ((((U.drew.alloc (.cells zero3 79)).alloc (.cells z48 68)).setRow U.heap.size #[.int .u8 2, .int .u8 g, .slice a l cap2]).setRow (U.heap.size + 1) C).heap[U.heap.size]? = some (.cells #[.int .u8 2, .int .u8 g, .slice a l cap2] 79 (0, 0)) := (((Kp.refl [(U.heap.size + 1)] _).row _ _ (.inl (by simp))).block _ (lt_of_heap r1) (by simp)).trans r1
    have Zr : U.heap.size ≤ U.heap.size := by omega
    have Zg : U.heap.size ≤ (U.heap.size + 1) := by omega
    have Zn : U.heap.size ≠ (U.heap.size + 1) := by omega
    skip
    refine wp_val (ex_alloc79 rfl) ?_
    simp only [World.size_alloc, drewH]
    refine hK.out _ _ ((K1.block q uq (by simp)).trans HJU.out) (fun hHeld => ?_)
    clear hK K'
    try simp only [Act.put, List.getElem_toArray, List.getElem_cons_succ, List.getElem_cons_zero, List.setIfInBounds_toArray, List.set_cons_zero, List.set_cons_succ]
    refine wpAnyH_ready (rs := [8]) (by kernel_rfl) (by simp) ?_
    refine AllReadyH.cons rfl (fun K' hK => ?_) AllReadyH.nil
    rw [if_pos (by rfl)]
    simp only [List.getElem_toArray, List.getElem_cons_succ, List.getElem_cons_zero]
    refine wp_val (ex_alloc68 rfl) ?_
    simp only [World.size_alloc, drewH]
    refine hK.out _ _ ((K2.block q uq (by simp)).trans HJU.out) (fun hHeld => ?_)
    clear hK K'
    try simp only [Act.put, List.getElem_toArray, List.getElem_cons_succ, List.getElem_cons_zero, List.setIfInBounds_toArray, List.set_cons_zero, List.set_cons_succ]
    refine wpAnyH_ready (rs := [9]) (by kernel_rfl) (by simp) ?_
    refine AllReadyH.cons rfl (fun K' hK => ?_) AllReadyH.nil
    rw [if_pos (by rfl)]
    simp only [List.getElem_toArray, List.getElem_cons_succ, List.getElem_cons_zero]
    refine wp_store_by 79 (.tmp 7) (.tmp 24) rfl _ _ rfl rfl S3 ?_
    refine hK.out _ _ ((K3.block q uq (by simp)).trans HJU.out) (fun hHeld => ?_)
    clear hK K'
    try simp only [Act.put, List.getElem_toArray, List.getElem_cons_succ, List.getElem_cons_zero, List.setIfInBounds_toArray, List.set_cons_zero, List.set_cons_succ]
    refine wpAnyH_ready (rs := [10]) (by kernel_rfl) (by simp) ?_
    refine AllReadyH.cons rfl (fun K' hK => ?_) AllReadyH.nil
    rw [if_pos (by rfl)]
    simp only [List.getElem_toArray, List.getElem_cons_succ, List.getElem_cons_zero]
    refine wp_store_by 68 (.tmp 8) (.tmp 28) rfl _ _ rfl rfl S48 ?_
    refine hK.out _ _ ((K4.block q uq (by simp)).trans HJU.out) (fun hHeld => ?_)
    clear hK K'
    try simp only [Act.put, List.getElem_toArray, List.getElem_cons_succ, List.getElem_cons_zero, List.setIfInBounds_toArray, List.set_cons_zero, List.set_cons_succ]
    refine wpAnyH_done (by kernel_rfl) ?_ _
    clear S3 S48 g1 r1 h1 h2 K1 K2 K3
    generalize ((((U.drew.alloc (.cells zero3 79)).alloc (.cells z48 68)).setRow U.heap.size #[.int .u8 2, .int .u8 g, .slice a l cap2]).setRow (U.heap.size + 1) C) = V at *
    have IV : Hid (IsG V ((U.heap.size + 1) :: S) j.all ss) := (HIU.out.fresh _ Zg).kp K4 (by simp)
    have jV : Hid (JB V q p (j.f1 first k) (j.f2 first k) k j.bg j.num j.en j.all ss false) := (K4.block q uq (by simp)).trans HJU.out
    have fV : Hid (IsS V p B n cap s) := HFU.out.kp K4 (by simp) (by simp)
    have rowV : Hid (Row V a l bs) := HrU.out.kp' K4 (by simp)
    have kV : Hid (Kp [q] w V) := HKU.out.trans (K4.more (by simp))
    have nb : Hid (0 < l → ∀ b off, a = some ⟨b, off, none⟩ → b ∉ [(U.heap.size + 1)]) := fun h b off e hm => by
      have := HrU.out.old h b off e
      simp at hm; omega
    have SV : Hid (∀ x ∈ (U.heap.size + 1) :: S, x < V.heap.size) := fun x hx => by
      have z4 := K4.size
      rcases List.mem_cons.1 hx with rfl | hx
      · exact lt_of_heap gV
      · have := HS.out x hx; omega
    have wr : w.heap.size ≤ U.heap.size := by omega
    have wg : w.heap.size ≤ (U.heap.size + 1) := by omega
    have gV : GB V (U.heap.size + 1) j.all ss := by show _ = _; rw [hC.out]; exact gV
    clear K4 Zr Zg uq zU jU LJ HrU HFU HIU HKU HJU
    generalize U.heap.size + 1 = gb at *
    generalize U.heap.size = rb at *
    have TK := take_any gV IV.out (by simp) SV.out ⟨2, g, bs⟩ rOk.out a l cap2 rowV.out
    obtain ⟨af, haf⟩ : ∃ af, Hid (take1 j.all ⟨2, g, bs⟩ = af) := ⟨_, rfl⟩
    rw [haf.out] at TK
    have x0 : V.cell? ⟨rb, 0, none⟩ = some (.int .u8 2) := by rw [cell_of_row V _ _ _ _ _ rV]; rfl
    have x1 : V.cell? ⟨rb, 1, none⟩ = some (.int .u8 g) := by rw [cell_of_row V _ _ _ _ _ rV]; rfl
    have x2 : V.cell? ⟨rb, 2, none⟩ = some (.slice a l cap2) := by rw [cell_of_row V _ _ _ _ _ rV]; rfl
    clear gV rV
    go_wp2_with fail
    with_reducible refine TK.mono ?_
    rintro e X ⟨rfl, ⟨st, gX, iX⟩, KX⟩
    clear TK
    have Nrg : rb ∉ [gb] := by simpa using Zn
    have x0 := KX.cell x0 Nrg
    have x1 := KX.cell x1 Nrg
    have x2 := KX.cell x2 Nrg
    have qg : q ∉ [gb] := by simp; omega
    have jX : JB X q p (j.f1 first k) (j.f2 first k) k j.bg j.num j.en j.all ss false := (KX.block q (lt_of_heap jV.out) qg).trans jV.out
    have fX : Hid (IsS X p B n cap s) := fV.out.kp KX (by simp; omega) (by simp; omega)
    have rowX : Hid (Row X a l bs) := rowV.out.kp' KX nb.out
    have kX : Hid (Kp [q] w X) := kV.out.fresh KX (fun i hi => by simp at hi; subst hi; exact .inr wg)
    have IX : Hid (IsG X S j.all ss) := (IV.out.kp KX (by simp)).less (fun x hx => List.mem_cons_of_mem _ hx)
    have AX : Hid (IsG X S af st) := iX.less (fun x hx => List.mem_cons_of_mem _ hx)
    have hal : ∀ g' ∈ af, g'.bs.length ≤ 4096 := fun g' hg' => by
      obtain ⟨i, hi, e⟩ := List.mem_iff_getElem.1 hg'
      have hi2 : i < st.length := by rw [AX.out.n2, ← AX.out.n1]; exact hi
      exact (AX.out.row i g' _ (by rw [List.getElem?_eq_getElem hi, e]) (List.getElem?_eq_getElem hi2)).2.1
    have GR := fun W => groom_any af st AX.out.n1 AX.out.n2 hal W
    have SZ := fun W => size_any (.pointer (some ⟨p, 0, none⟩)) (j.f1 first k : Int) k hk2 W
    have RM := fun W => room_any 1 (by decide) W
    rw [rm_one] at RM
    obtain ⟨D, hD⟩ : ∃ D, Hid ((gflat af st).toArray = D) := ⟨_, rfl⟩
    rw [hD.out] at GR
    have HGR : Hid _ := GR
    have HSZ : Hid _ := SZ
    have HRM : Hid _ := RM
    have LX : Hid (∀ x, GB x gb af st → (loadVar 68 ⟨gb, 0, none⟩).run Try.prog x = .ok (.agg D) x) := fun x h => by rw [← hD.out]; exact load68 AX.out.n1 AX.out.n2 h
    have hkI : (k : Int) ≤ 1000 := by omega
    have hkJ : (1 : Int) ≤ (k : Int) := by omega
    have j0 := jX.c0
    have j1 := jX.c1
    have j2 := jX.c2
    have HJX : Hid (JB X q p (j.f1 first k) (j.f2 first k) k j.bg j.num j.en j.all ss false) := jX
    have HgX : Hid (GB X gb af st) := gX
    have gXs : gb < X.heap.size := lt_of_heap gX
    have qXs : q < X.heap.size := lt_of_heap jX
    clear hal GR SZ RM iX jX KX
    go_wp2_with fail
    refine wp_region_held_drew (S := fun x => GB x gb af st ∧ x.cell? ⟨q, 0, none⟩ = some (.pointer (some ⟨p, 0, none⟩)) ∧ x.cell? ⟨q, 1, none⟩ = some (.int .i64 (j.f1 first k : Int)) ∧ x.cell? ⟨q, 2, none⟩ = some (.int .i64 (k : Int))) (by kernel_rfl) (⟨gX, j0, j1, j2⟩) (fun hHeld => ?_)
    refine wpAnyH_take (i := 0) (v := (.agg D)) rfl (by kernel_rfl) (by kernel_rfl) (by kernel_rfl) (fun _ _ _ h => h) (Or.inl ⟨by rfl, ?_⟩) (by assumption) ?_
    · intro w9 hSw
      try dsimp only at hSw
      exact ex_load 68 (.tmp 8) rfl _ _ rfl (LX.out _ hSw.1)
    try simp only [Act.put, List.getElem_toArray, List.getElem_cons_succ, List.getElem_cons_zero, List.setIfInBounds_toArray, List.set_cons_zero, List.set_cons_succ]
    refine wpAnyH_take (i := 2) (v := (.pointer (some ⟨q, 0, none⟩))) rfl (by kernel_rfl) (by kernel_rfl) (by kernel_rfl) (fun _ _ _ h => h) (Or.inl ⟨by rfl, ?_⟩) (by assumption) ?_
    · intro w9 hSw
      try dsimp only at hSw
      go_simp
      all_goals try decide
      all_goals try assumption
      all_goals try omega
    try simp only [Act.put, List.getElem_toArray, List.getElem_cons_succ, List.getElem_cons_zero, List.setIfInBounds_toArray, List.set_cons_zero, List.set_cons_succ]
    refine wpAnyH_take (i := 3) (v := (.pointer (some ⟨q, 0, none⟩))) rfl (by kernel_rfl) (by kernel_rfl) (by kernel_rfl) (fun _ _ _ h => h) (Or.inl ⟨by rfl, ?_⟩) (by assumption) ?_
    · intro w9 hSw
      try dsimp only at hSw
      go_simp
      all_goals try decide
      all_goals try assumption
      all_goals try omega
    try simp only [Act.put, List.getElem_toArray, List.getElem_cons_succ, List.getElem_cons_zero, List.setIfInBounds_toArray, List.set_cons_zero, List.set_cons_succ]
    refine wpAnyH_take (i := 4) (v := (.pointer (some ⟨q, 0, none⟩))) rfl (by kernel_rfl) (by kernel_rfl) (by kernel_rfl) (fun _ _ _ h => h) (Or.inl ⟨by rfl, ?_⟩) (by assumption) ?_
    · intro w9 hSw
      try dsimp only at hSw
      go_simp
      all_goals try decide
      all_goals try assumption
      all_goals try omega
    try simp only [Act.put, List.getElem_toArray, List.getElem_cons_succ, List.getElem_cons_zero, List.setIfInBounds_toArray, List.set_cons_zero, List.set_cons_succ]
    refine wpAnyH_take (i := 5) (v := (.pointer (some ⟨q, 0, none⟩))) rfl (by kernel_rfl) (by kernel_rfl) (by kernel_rfl) (fun _ _ _ h => h) (Or.inl ⟨by rfl, ?_⟩) (by assumption) ?_
    · intro w9 hSw
      try dsimp only at hSw
      go_simp
      all_goals try decide
      all_goals try assumption
      all_goals try omega
    try simp only [Act.put, List.getElem_toArray, List.getElem_cons_succ, List.getElem_cons_zero, List.setIfInBounds_toArray, List.set_cons_zero, List.set_cons_succ]
    refine wpAnyH_take (i := 6) (v := (.agg #[.pointer (some ⟨p, 0, none⟩), .int .i64 (j.f1 first k : Int), .int .i64 (k : Int)])) rfl (by kernel_rfl) (by kernel_rfl) (by kernel_rfl) (fun _ _ _ h => h) (Or.inl ⟨by rfl, ?_⟩) (by assumption) ?_
    · intro w9 hSw
      try dsimp only at hSw
      obtain ⟨hS0, hS1, hS2, hS3⟩ := hSw
      go_simp
    try simp only [Act.put, List.getElem_toArray, List.getElem_cons_succ, List.getElem_cons_zero, List.setIfInBounds_toArray, List.set_cons_zero, List.set_cons_succ]
    refine wpAnyH_ready (rs := [1]) (by kernel_rfl) (by simp) ?_
    refine AllReadyH.cons rfl (fun K' hK => ?_) AllReadyH.nil
    rw [if_pos (by rfl)]
    simp only [List.getElem_toArray, List.getElem_cons_succ, List.getElem_cons_zero]
    go_wp2_with fail
    refine (HGR.out _).mono ?_
    rintro e X1 ⟨rfl, b1⟩
    have L1 : Kp [] X X1 := (Kp.refl _ _).drew.trans (Kp.of b1)
    try go_wp2_with fail
    refine hK.out _ _ (⟨(L1.block gb gXs (by simp)).trans HgX.out, L1.cell j0 (by simp), L1.cell j1 (by simp), L1.cell j2 (by simp)⟩) (fun hHeld => ?_)
    clear hK K'
    try simp only [Act.put, List.getElem_toArray, List.getElem_cons_succ, List.getElem_cons_zero, List.setIfInBounds_toArray, List.set_cons_zero, List.set_cons_succ]
    refine wpAnyH_ready (rs := [7]) (by kernel_rfl) (by simp) ?_
    refine AllReadyH.cons rfl (fun K' hK => ?_) AllReadyH.nil
    rw [if_pos (by rfl)]
    simp only [List.getElem_toArray, List.getElem_cons_succ, List.getElem_cons_zero]
    go_wp2_with fail
    refine (HSZ.out _).mono ?_
    rintro e X2 ⟨rfl, b2⟩
    have L2 : Kp [] X X2 := L1.trans (Kp.of b2)
    try go_wp2_with fail
    refine hK.out _ _ (⟨(L2.block gb gXs (by simp)).trans HgX.out, L2.cell j0 (by simp), L2.cell j1 (by simp), L2.cell j2 (by simp)⟩) (fun hHeld => ?_)
    clear hK K'
    try simp only [Act.put, List.getElem_toArray, List.getElem_cons_succ, List.getElem_cons_zero, List.setIfInBounds_toArray, List.set_cons_zero, List.set_cons_succ]
    refine wpAnyH_ready (rs := [8]) (by kernel_rfl) (by simp) ?_
    refine AllReadyH.cons rfl (fun K' hK => ?_) AllReadyH.nil
    rw [if_pos (by rfl)]
    simp only [List.getElem_toArray, List.getElem_cons_succ, List.getElem_cons_zero]
    go_wp2_with fail
    refine (HRM.out _).mono ?_
    rintro e X3 ⟨rfl, rfl⟩
    try go_wp2_with fail
    refine hK.out _ _ (⟨(L2.block gb gXs (by simp)).trans HgX.out, L2.cell j0 (by simp), L2.cell j1 (by simp), L2.cell j2 (by simp)⟩) (fun hHeld => ?_)
    clear hK K'
    try simp only [Act.put, List.getElem_toArray, List.getElem_cons_succ, List.getElem_cons_zero, List.setIfInBounds_toArray, List.set_cons_zero, List.set_cons_succ]
    refine wpAnyH_take (i := 9) (v := (.int .i64 (((1024 * k : Nat) : Int) - 16))) rfl (by kernel_rfl) (by kernel_rfl) (by kernel_rfl) (fun _ _ _ h => h) (Or.inl ⟨by rfl, ?_⟩) (by assumption) ?_
    · intro w9 hSw
      try dsimp only at hSw
      go_simp
      all_goals try exact wrap_room k hk hk2
    try simp only [Act.put, List.getElem_toArray, List.getElem_cons_succ, List.getElem_cons_zero, List.setIfInBounds_toArray, List.set_cons_zero, List.set_cons_succ]
    by_cases hfull : 1024 * k < roomG af + 16
    · have gt : (((1024 * k : Nat) : Int) - 16) < ((roomG af : Nat) : Int) := by omega
      refine wpAnyH_take (i := 10) (v := (.bool true)) rfl (by kernel_rfl) (by kernel_rfl) (by kernel_rfl) (fun _ _ _ h => h) (Or.inl ⟨by rfl, ?_⟩) (by assumption) ?_
      · intro w9 hSw
        try dsimp only at hSw
        go_simp
        all_goals try decide
        all_goals try assumption
        all_goals try omega
      try simp only [Act.put, List.getElem_toArray, List.getElem_cons_succ, List.getElem_cons_zero, List.setIfInBounds_toArray, List.set_cons_zero, List.set_cons_succ]
      refine wpAnyH_done (by kernel_rfl) ?_ _
      clear HGR HSZ HRM gX j0 j1 j2 gt
      skip
      have gX2 : GB X3 gb af st := (L2.block gb gXs (by simp)).trans HgX.out
      have JX2 : JB X3 q p (j.f1 first k) (j.f2 first k) k j.bg j.num j.en j.all ss j.cut := by rw [HCJ.out]; exact (L2.block q qXs (by simp)).trans HJX.out
      have IX2 := IX.out.kp L2 (by simp)
      have AX2 := AX.out.kp L2 (by simp)
      have fX2 := fX.out.kp L2 (by simp) (by simp)
      have kX2 : Kp [q] w X3 := kX.out.trans (L2.more (by simp))
      have HFIN : Hid (KeepPost w p B n cap q first k S R (.returned (.int .i64 60)) X3) := by
        rw [← hR.out, storeJ_f (Int.not_le.2 H1.out) (Nat.not_lt.2 H2.out) HC.out (by rw [haf.out]; exact hfull)]
        exact ⟨rfl, fX2, ⟨ss, JX2, IX2⟩, kX2.more (by simp)⟩
      clear gX2 JX2 IX2 AX2 fX2 kX2
      go_wp2_with fail
      go_ret
      exact HFIN.out
    · have gt : ¬ (((1024 * k : Nat) : Int) - 16) < ((roomG af : Nat) : Int) := by omega
      refine wpAnyH_take (i := 10) (v := (.bool false)) rfl (by kernel_rfl) (by kernel_rfl) (by kernel_rfl) (fun _ _ _ h => h) (Or.inl ⟨by rfl, ?_⟩) (by assumption) ?_
      · intro w9 hSw
        try dsimp only at hSw
        go_simp
        all_goals try decide
        all_goals try assumption
        all_goals try omega
      try simp only [Act.put, List.getElem_toArray, List.getElem_cons_succ, List.getElem_cons_zero, List.setIfInBounds_toArray, List.set_cons_zero, List.set_cons_succ]
      refine wpAnyH_done (by kernel_rfl) ?_ _
      clear HGR HSZ HRM gX j0 j1 j2 gt
      skip
      have gX2 : GB X3 gb af st := (L2.block gb gXs (by simp)).trans HgX.out
      have JX2 : JB X3 q p (j.f1 first k) (j.f2 first k) k j.bg j.num j.en j.all ss j.cut := by rw [HCJ.out]; exact (L2.block q qXs (by simp)).trans HJX.out
      have IX2 := IX.out.kp L2 (by simp)
      have AX2 := AX.out.kp L2 (by simp)
      have fX2 := fX.out.kp L2 (by simp) (by simp)
      have kX2 : Kp [q] w X3 := kX.out.trans (L2.more (by simp))
      have KE := keep_any fX2 m hm hm2 ⟨ss, JX2, IX2⟩ hOk hqp hqB hk hfk hpS hBS hqS ⟨2, g, bs⟩ rOk.out a l cap2 (rowX.out.kp' L2 (by simp)) af st AX2
      rw [hD.out] at KE
      have E1 : Hid (storeJ n first k j g bs s = keepJ n first k j ⟨2, g, bs⟩ af s) := by
        have := storeJ_k (n := n) (first := first) (Int.not_le.2 H1.out) (Nat.not_lt.2 H2.out) HC.out (by rw [haf.out]; exact hfull)
        rw [haf.out] at this; exact this
      rw [← E1.out, hR.out] at KE
      have LX2 := LX.out X3 gX2
      have x0 := L2.cell x0 (by simp)
      have x1 := L2.cell x1 (by simp)
      have x2 := L2.cell x2 (by simp)
      have HKX : Hid (Kp [q] w X3) := kX2
      clear gX2 JX2 IX2 AX2 fX2 kX2
      go_wp2_with (refine wpList_load_by rfl 68 (.tmp 8) rfl _ _ rfl LX2 ?_)
      with_reducible refine KE.mono ?_
      rintro e Y ⟨rfl, yF, yJ, yK⟩
      have HFIN : Hid (KeepPost w p B n cap q first k S R (.returned (.int .i64 R.1)) Y) := ⟨rfl, yF, yJ, (HKX.out.more (by simp)).trans yK⟩
      clear yF yJ yK KE
      go_wp2_with fail
      go_ret
      exact HFIN.out
  · rw [if_pos (by rfl)]
    simp only [List.getElem_toArray, List.getElem_cons_succ, List.getElem_cons_zero]
    have K1 : Kp [] U (U.drew.alloc (.cells z48 68)) := ((Kp.refl _ _).drew).al _
    have K2 : Kp [] U ((U.drew.alloc (.cells z48 68)).alloc (.cells zero3 79)) := K1.al _
    have K3 : Kp [] U (((U.drew.alloc (.cells z48 68)).alloc (.cells zero3 79)).setRow (U.heap.size + 1) #[.int .u8 2, .int .u8 g, .slice a l cap2]) := K2.row _ _ (.inr (by omega))
    have K4 : Kp [] U ((((U.drew.alloc (.cells z48 68)).alloc (.cells zero3 79)).setRow (U.heap.size + 1) #[.int .u8 2, .int .u8 g, .slice a l cap2]).setRow U.heap.size C) := K3.row _ _ (.inr (by omega))
    have h2 : ((U.drew.alloc (.cells z48 68)).alloc (.cells zero3 79)).heap[U.heap.size + 1]? = some (.cells zero3 79 (0, 0)) := by
      have := heap_alloc_new (U.drew.alloc (.cells z48 68)) (.cells zero3 79)
      rwa [World.size_alloc] at this
    have h1 : ((U.drew.alloc (.cells z48 68)).alloc (.cells zero3 79)).heap[U.heap.size]? = some (.cells z48 68 (0, 0)) := by
      rw [Below.heap_alloc _ _ _ (by simp)]; exact heap_alloc_new U.drew _
    have S3 := store79 h2 2 g a l cap2
    have g1 : (((U.drew.alloc (.cells z48 68)).alloc (.cells zero3 79)).setRow (U.heap.size + 1) #[.int .u8 2, .int .u8 g, .slice a l cap2]).heap[U.heap.size]? = some (.cells z48 68 (0, 0)) := (((Kp.refl [(U.heap.size + 1)] _).row _ _ (.inl (by simp))).block _ (lt_of_heap h1) (by simp)).trans h1
    have S48 := store68 (by rfl) g1 j.all ss n1.out n2.out
    rw [hC.out] at S48
    have gV : ((((U.drew.alloc (.cells z48 68)).alloc (.cells zero3 79)).setRow (U.heap.size + 1) #[.int .u8 2, .int .u8 g, .slice a l cap2]).setRow U.heap.size C).heap[U.heap.size]? = some (.cells C 68 (0, 0)) := setRow_heap _ _ _ _ _ _ g1
    have r1 : (((U.drew.alloc (.cells z48 68)).alloc (.cells zero3 79)).setRow (U.heap.size + 1) #[.int .u8 2, .int .u8 g, .slice a l cap2]).heap[(U.heap.size + 1)]? = some (.cells #[.int .u8 2, .int .u8 g, .slice a l cap2] 79 (0, 0)) := setRow_heap _ _ _ _ _ _ h2
    have rV : ((((U.drew.alloc (.cells z48 68)).alloc (.cells zero3 79)).setRow (U.heap.size + 1) #[.int .u8 2, .int .u8 g, .slice a l cap2]).setRow U.heap.size C).heap[(U.heap.size + 1)]? = some (.cells #[.int .u8 2, .int .u8 g, .slice a l cap2] 79 (0, 0)) := (((Kp.refl [U.heap.size] _).row _ _ (.inl (by simp))).block _ (lt_of_heap r1) (by simp)).trans r1
    have Zr : U.heap.size ≤ (U.heap.size + 1) := by omega
    have Zg : U.heap.size ≤ U.heap.size := by omega
    have Zn : (U.heap.size + 1) ≠ U.heap.size := by omega
    skip
    refine wp_val (ex_alloc68 rfl) ?_
    simp only [World.size_alloc, drewH]
    refine hK.out _ _ ((K1.block q uq (by simp)).trans HJU.out) (fun hHeld => ?_)
    clear hK K'
    try simp only [Act.put, List.getElem_toArray, List.getElem_cons_succ, List.getElem_cons_zero, List.setIfInBounds_toArray, List.set_cons_zero, List.set_cons_succ]
    refine wpAnyH_ready (rs := [7]) (by kernel_rfl) (by simp) ?_
    refine AllReadyH.cons rfl (fun K' hK => ?_) AllReadyH.nil
    rw [if_pos (by rfl)]
    simp only [List.getElem_toArray, List.getElem_cons_succ, List.getElem_cons_zero]
    refine wp_val (ex_alloc79 rfl) ?_
    simp only [World.size_alloc, drewH]
    refine hK.out _ _ ((K2.block q uq (by simp)).trans HJU.out) (fun hHeld => ?_)
    clear hK K'
    try simp only [Act.put, List.getElem_toArray, List.getElem_cons_succ, List.getElem_cons_zero, List.setIfInBounds_toArray, List.set_cons_zero, List.set_cons_succ]
    refine wpAnyH_ready (rs := [9]) (by kernel_rfl) (by simp) ?_
    refine AllReadyH.cons rfl (fun K' hK => ?_) AllReadyH.nil
    rw [if_pos (by rfl)]
    simp only [List.getElem_toArray, List.getElem_cons_succ, List.getElem_cons_zero]
    refine wp_store_by 79 (.tmp 7) (.tmp 24) rfl _ _ rfl rfl S3 ?_
    refine hK.out _ _ ((K3.block q uq (by simp)).trans HJU.out) (fun hHeld => ?_)
    clear hK K'
    try simp only [Act.put, List.getElem_toArray, List.getElem_cons_succ, List.getElem_cons_zero, List.setIfInBounds_toArray, List.set_cons_zero, List.set_cons_succ]
    refine wpAnyH_ready (rs := [10]) (by kernel_rfl) (by simp) ?_
    refine AllReadyH.cons rfl (fun K' hK => ?_) AllReadyH.nil
    rw [if_pos (by rfl)]
    simp only [List.getElem_toArray, List.getElem_cons_succ, List.getElem_cons_zero]
    refine wp_store_by 68 (.tmp 8) (.tmp 28) rfl _ _ rfl rfl S48 ?_
    refine hK.out _ _ ((K4.block q uq (by simp)).trans HJU.out) (fun hHeld => ?_)
    clear hK K'
    try simp only [Act.put, List.getElem_toArray, List.getElem_cons_succ, List.getElem_cons_zero, List.setIfInBounds_toArray, List.set_cons_zero, List.set_cons_succ]
    refine wpAnyH_done (by kernel_rfl) ?_ _
    clear S3 S48 g1 r1 h1 h2 K1 K2 K3
    generalize ((((U.drew.alloc (.cells z48 68)).alloc (.cells zero3 79)).setRow (U.heap.size + 1) #[.int .u8 2, .int .u8 g, .slice a l cap2]).setRow U.heap.size C) = V at *
    have IV : Hid (IsG V (U.heap.size :: S) j.all ss) := (HIU.out.fresh _ Zg).kp K4 (by simp)
    have jV : Hid (JB V q p (j.f1 first k) (j.f2 first k) k j.bg j.num j.en j.all ss false) := (K4.block q uq (by simp)).trans HJU.out
    have fV : Hid (IsS V p B n cap s) := HFU.out.kp K4 (by simp) (by simp)
    have rowV : Hid (Row V a l bs) := HrU.out.kp' K4 (by simp)
    have kV : Hid (Kp [q] w V) := HKU.out.trans (K4.more (by simp))
    have nb : Hid (0 < l → ∀ b off, a = some ⟨b, off, none⟩ → b ∉ [U.heap.size]) := fun h b off e hm => by
      have := HrU.out.old h b off e
      simp at hm; omega
    have SV : Hid (∀ x ∈ U.heap.size :: S, x < V.heap.size) := fun x hx => by
      have z4 := K4.size
      rcases List.mem_cons.1 hx with rfl | hx
      · exact lt_of_heap gV
      · have := HS.out x hx; omega
    have wr : w.heap.size ≤ (U.heap.size + 1) := by omega
    have wg : w.heap.size ≤ U.heap.size := by omega
    have gV : GB V U.heap.size j.all ss := by show _ = _; rw [hC.out]; exact gV
    clear K4 Zr Zg uq zU jU LJ HrU HFU HIU HKU HJU
    generalize U.heap.size + 1 = rb at *
    generalize U.heap.size = gb at *
    have TK := take_any gV IV.out (by simp) SV.out ⟨2, g, bs⟩ rOk.out a l cap2 rowV.out
    obtain ⟨af, haf⟩ : ∃ af, Hid (take1 j.all ⟨2, g, bs⟩ = af) := ⟨_, rfl⟩
    rw [haf.out] at TK
    have x0 : V.cell? ⟨rb, 0, none⟩ = some (.int .u8 2) := by rw [cell_of_row V _ _ _ _ _ rV]; rfl
    have x1 : V.cell? ⟨rb, 1, none⟩ = some (.int .u8 g) := by rw [cell_of_row V _ _ _ _ _ rV]; rfl
    have x2 : V.cell? ⟨rb, 2, none⟩ = some (.slice a l cap2) := by rw [cell_of_row V _ _ _ _ _ rV]; rfl
    clear gV rV
    go_wp2_with fail
    with_reducible refine TK.mono ?_
    rintro e X ⟨rfl, ⟨st, gX, iX⟩, KX⟩
    clear TK
    have Nrg : rb ∉ [gb] := by simpa using Zn
    have x0 := KX.cell x0 Nrg
    have x1 := KX.cell x1 Nrg
    have x2 := KX.cell x2 Nrg
    have qg : q ∉ [gb] := by simp; omega
    have jX : JB X q p (j.f1 first k) (j.f2 first k) k j.bg j.num j.en j.all ss false := (KX.block q (lt_of_heap jV.out) qg).trans jV.out
    have fX : Hid (IsS X p B n cap s) := fV.out.kp KX (by simp; omega) (by simp; omega)
    have rowX : Hid (Row X a l bs) := rowV.out.kp' KX nb.out
    have kX : Hid (Kp [q] w X) := kV.out.fresh KX (fun i hi => by simp at hi; subst hi; exact .inr wg)
    have IX : Hid (IsG X S j.all ss) := (IV.out.kp KX (by simp)).less (fun x hx => List.mem_cons_of_mem _ hx)
    have AX : Hid (IsG X S af st) := iX.less (fun x hx => List.mem_cons_of_mem _ hx)
    have hal : ∀ g' ∈ af, g'.bs.length ≤ 4096 := fun g' hg' => by
      obtain ⟨i, hi, e⟩ := List.mem_iff_getElem.1 hg'
      have hi2 : i < st.length := by rw [AX.out.n2, ← AX.out.n1]; exact hi
      exact (AX.out.row i g' _ (by rw [List.getElem?_eq_getElem hi, e]) (List.getElem?_eq_getElem hi2)).2.1
    have GR := fun W => groom_any af st AX.out.n1 AX.out.n2 hal W
    have SZ := fun W => size_any (.pointer (some ⟨p, 0, none⟩)) (j.f1 first k : Int) k hk2 W
    have RM := fun W => room_any 1 (by decide) W
    rw [rm_one] at RM
    obtain ⟨D, hD⟩ : ∃ D, Hid ((gflat af st).toArray = D) := ⟨_, rfl⟩
    rw [hD.out] at GR
    have HGR : Hid _ := GR
    have HSZ : Hid _ := SZ
    have HRM : Hid _ := RM
    have LX : Hid (∀ x, GB x gb af st → (loadVar 68 ⟨gb, 0, none⟩).run Try.prog x = .ok (.agg D) x) := fun x h => by rw [← hD.out]; exact load68 AX.out.n1 AX.out.n2 h
    have hkI : (k : Int) ≤ 1000 := by omega
    have hkJ : (1 : Int) ≤ (k : Int) := by omega
    have j0 := jX.c0
    have j1 := jX.c1
    have j2 := jX.c2
    have HJX : Hid (JB X q p (j.f1 first k) (j.f2 first k) k j.bg j.num j.en j.all ss false) := jX
    have HgX : Hid (GB X gb af st) := gX
    have gXs : gb < X.heap.size := lt_of_heap gX
    have qXs : q < X.heap.size := lt_of_heap jX
    clear hal GR SZ RM iX jX KX
    go_wp2_with fail
    refine wp_region_held_drew (S := fun x => GB x gb af st ∧ x.cell? ⟨q, 0, none⟩ = some (.pointer (some ⟨p, 0, none⟩)) ∧ x.cell? ⟨q, 1, none⟩ = some (.int .i64 (j.f1 first k : Int)) ∧ x.cell? ⟨q, 2, none⟩ = some (.int .i64 (k : Int))) (by kernel_rfl) (⟨gX, j0, j1, j2⟩) (fun hHeld => ?_)
    refine wpAnyH_take (i := 0) (v := (.agg D)) rfl (by kernel_rfl) (by kernel_rfl) (by kernel_rfl) (fun _ _ _ h => h) (Or.inl ⟨by rfl, ?_⟩) (by assumption) ?_
    · intro w9 hSw
      try dsimp only at hSw
      exact ex_load 68 (.tmp 8) rfl _ _ rfl (LX.out _ hSw.1)
    try simp only [Act.put, List.getElem_toArray, List.getElem_cons_succ, List.getElem_cons_zero, List.setIfInBounds_toArray, List.set_cons_zero, List.set_cons_succ]
    refine wpAnyH_take (i := 2) (v := (.pointer (some ⟨q, 0, none⟩))) rfl (by kernel_rfl) (by kernel_rfl) (by kernel_rfl) (fun _ _ _ h => h) (Or.inl ⟨by rfl, ?_⟩) (by assumption) ?_
    · intro w9 hSw
      try dsimp only at hSw
      go_simp
      all_goals try decide
      all_goals try assumption
      all_goals try omega
    try simp only [Act.put, List.getElem_toArray, List.getElem_cons_succ, List.getElem_cons_zero, List.setIfInBounds_toArray, List.set_cons_zero, List.set_cons_succ]
    refine wpAnyH_take (i := 3) (v := (.pointer (some ⟨q, 0, none⟩))) rfl (by kernel_rfl) (by kernel_rfl) (by kernel_rfl) (fun _ _ _ h => h) (Or.inl ⟨by rfl, ?_⟩) (by assumption) ?_
    · intro w9 hSw
      try dsimp only at hSw
      go_simp
      all_goals try decide
      all_goals try assumption
      all_goals try omega
    try simp only [Act.put, List.getElem_toArray, List.getElem_cons_succ, List.getElem_cons_zero, List.setIfInBounds_toArray, List.set_cons_zero, List.set_cons_succ]
    refine wpAnyH_take (i := 4) (v := (.pointer (some ⟨q, 0, none⟩))) rfl (by kernel_rfl) (by kernel_rfl) (by kernel_rfl) (fun _ _ _ h => h) (Or.inl ⟨by rfl, ?_⟩) (by assumption) ?_
    · intro w9 hSw
      try dsimp only at hSw
      go_simp
      all_goals try decide
      all_goals try assumption
      all_goals try omega
    try simp only [Act.put, List.getElem_toArray, List.getElem_cons_succ, List.getElem_cons_zero, List.setIfInBounds_toArray, List.set_cons_zero, List.set_cons_succ]
    refine wpAnyH_take (i := 5) (v := (.pointer (some ⟨q, 0, none⟩))) rfl (by kernel_rfl) (by kernel_rfl) (by kernel_rfl) (fun _ _ _ h => h) (Or.inl ⟨by rfl, ?_⟩) (by assumption) ?_
    · intro w9 hSw
      try dsimp only at hSw
      go_simp
      all_goals try decide
      all_goals try assumption
      all_goals try omega
    try simp only [Act.put, List.getElem_toArray, List.getElem_cons_succ, List.getElem_cons_zero, List.setIfInBounds_toArray, List.set_cons_zero, List.set_cons_succ]
    refine wpAnyH_take (i := 6) (v := (.agg #[.pointer (some ⟨p, 0, none⟩), .int .i64 (j.f1 first k : Int), .int .i64 (k : Int)])) rfl (by kernel_rfl) (by kernel_rfl) (by kernel_rfl) (fun _ _ _ h => h) (Or.inl ⟨by rfl, ?_⟩) (by assumption) ?_
    · intro w9 hSw
      try dsimp only at hSw
      obtain ⟨hS0, hS1, hS2, hS3⟩ := hSw
      go_simp
    try simp only [Act.put, List.getElem_toArray, List.getElem_cons_succ, List.getElem_cons_zero, List.setIfInBounds_toArray, List.set_cons_zero, List.set_cons_succ]
    refine wpAnyH_ready (rs := [1]) (by kernel_rfl) (by simp) ?_
    refine AllReadyH.cons rfl (fun K' hK => ?_) AllReadyH.nil
    rw [if_pos (by rfl)]
    simp only [List.getElem_toArray, List.getElem_cons_succ, List.getElem_cons_zero]
    go_wp2_with fail
    refine (HGR.out _).mono ?_
    rintro e X1 ⟨rfl, b1⟩
    have L1 : Kp [] X X1 := (Kp.refl _ _).drew.trans (Kp.of b1)
    try go_wp2_with fail
    refine hK.out _ _ (⟨(L1.block gb gXs (by simp)).trans HgX.out, L1.cell j0 (by simp), L1.cell j1 (by simp), L1.cell j2 (by simp)⟩) (fun hHeld => ?_)
    clear hK K'
    try simp only [Act.put, List.getElem_toArray, List.getElem_cons_succ, List.getElem_cons_zero, List.setIfInBounds_toArray, List.set_cons_zero, List.set_cons_succ]
    refine wpAnyH_ready (rs := [7]) (by kernel_rfl) (by simp) ?_
    refine AllReadyH.cons rfl (fun K' hK => ?_) AllReadyH.nil
    rw [if_pos (by rfl)]
    simp only [List.getElem_toArray, List.getElem_cons_succ, List.getElem_cons_zero]
    go_wp2_with fail
    refine (HSZ.out _).mono ?_
    rintro e X2 ⟨rfl, b2⟩
    have L2 : Kp [] X X2 := L1.trans (Kp.of b2)
    try go_wp2_with fail
    refine hK.out _ _ (⟨(L2.block gb gXs (by simp)).trans HgX.out, L2.cell j0 (by simp), L2.cell j1 (by simp), L2.cell j2 (by simp)⟩) (fun hHeld => ?_)
    clear hK K'
    try simp only [Act.put, List.getElem_toArray, List.getElem_cons_succ, List.getElem_cons_zero, List.setIfInBounds_toArray, List.set_cons_zero, List.set_cons_succ]
    refine wpAnyH_ready (rs := [8]) (by kernel_rfl) (by simp) ?_
    refine AllReadyH.cons rfl (fun K' hK => ?_) AllReadyH.nil
    rw [if_pos (by rfl)]
    simp only [List.getElem_toArray, List.getElem_cons_succ, List.getElem_cons_zero]
    go_wp2_with fail
    refine (HRM.out _).mono ?_
    rintro e X3 ⟨rfl, rfl⟩
    try go_wp2_with fail
    refine hK.out _ _ (⟨(L2.block gb gXs (by simp)).trans HgX.out, L2.cell j0 (by simp), L2.cell j1 (by simp), L2.cell j2 (by simp)⟩) (fun hHeld => ?_)
    clear hK K'
    try simp only [Act.put, List.getElem_toArray, List.getElem_cons_succ, List.getElem_cons_zero, List.setIfInBounds_toArray, List.set_cons_zero, List.set_cons_succ]
    refine wpAnyH_take (i := 9) (v := (.int .i64 (((1024 * k : Nat) : Int) - 16))) rfl (by kernel_rfl) (by kernel_rfl) (by kernel_rfl) (fun _ _ _ h => h) (Or.inl ⟨by rfl, ?_⟩) (by assumption) ?_
    · intro w9 hSw
      try dsimp only at hSw
      go_simp
      all_goals try exact wrap_room k hk hk2
    try simp only [Act.put, List.getElem_toArray, List.getElem_cons_succ, List.getElem_cons_zero, List.setIfInBounds_toArray, List.set_cons_zero, List.set_cons_succ]
    by_cases hfull : 1024 * k < roomG af + 16
    · have gt : (((1024 * k : Nat) : Int) - 16) < ((roomG af : Nat) : Int) := by omega
      refine wpAnyH_take (i := 10) (v := (.bool true)) rfl (by kernel_rfl) (by kernel_rfl) (by kernel_rfl) (fun _ _ _ h => h) (Or.inl ⟨by rfl, ?_⟩) (by assumption) ?_
      · intro w9 hSw
        try dsimp only at hSw
        go_simp
        all_goals try decide
        all_goals try assumption
        all_goals try omega
      try simp only [Act.put, List.getElem_toArray, List.getElem_cons_succ, List.getElem_cons_zero, List.setIfInBounds_toArray, List.set_cons_zero, List.set_cons_succ]
      refine wpAnyH_done (by kernel_rfl) ?_ _
      clear HGR HSZ HRM gX j0 j1 j2 gt
      skip
      have gX2 : GB X3 gb af st := (L2.block gb gXs (by simp)).trans HgX.out
      have JX2 : JB X3 q p (j.f1 first k) (j.f2 first k) k j.bg j.num j.en j.all ss j.cut := by rw [HCJ.out]; exact (L2.block q qXs (by simp)).trans HJX.out
      have IX2 := IX.out.kp L2 (by simp)
      have AX2 := AX.out.kp L2 (by simp)
      have fX2 := fX.out.kp L2 (by simp) (by simp)
      have kX2 : Kp [q] w X3 := kX.out.trans (L2.more (by simp))
      have HFIN : Hid (KeepPost w p B n cap q first k S R (.returned (.int .i64 60)) X3) := by
        rw [← hR.out, storeJ_f (Int.not_le.2 H1.out) (Nat.not_lt.2 H2.out) HC.out (by rw [haf.out]; exact hfull)]
        exact ⟨rfl, fX2, ⟨ss, JX2, IX2⟩, kX2.more (by simp)⟩
      clear gX2 JX2 IX2 AX2 fX2 kX2
      go_wp2_with fail
      go_ret
      exact HFIN.out
    · have gt : ¬ (((1024 * k : Nat) : Int) - 16) < ((roomG af : Nat) : Int) := by omega
      refine wpAnyH_take (i := 10) (v := (.bool false)) rfl (by kernel_rfl) (by kernel_rfl) (by kernel_rfl) (fun _ _ _ h => h) (Or.inl ⟨by rfl, ?_⟩) (by assumption) ?_
      · intro w9 hSw
        try dsimp only at hSw
        go_simp
        all_goals try decide
        all_goals try assumption
        all_goals try omega
      try simp only [Act.put, List.getElem_toArray, List.getElem_cons_succ, List.getElem_cons_zero, List.setIfInBounds_toArray, List.set_cons_zero, List.set_cons_succ]
      refine wpAnyH_done (by kernel_rfl) ?_ _
      clear HGR HSZ HRM gX j0 j1 j2 gt
      skip
      have gX2 : GB X3 gb af st := (L2.block gb gXs (by simp)).trans HgX.out
      have JX2 : JB X3 q p (j.f1 first k) (j.f2 first k) k j.bg j.num j.en j.all ss j.cut := by rw [HCJ.out]; exact (L2.block q qXs (by simp)).trans HJX.out
      have IX2 := IX.out.kp L2 (by simp)
      have AX2 := AX.out.kp L2 (by simp)
      have fX2 := fX.out.kp L2 (by simp) (by simp)
      have kX2 : Kp [q] w X3 := kX.out.trans (L2.more (by simp))
      have KE := keep_any fX2 m hm hm2 ⟨ss, JX2, IX2⟩ hOk hqp hqB hk hfk hpS hBS hqS ⟨2, g, bs⟩ rOk.out a l cap2 (rowX.out.kp' L2 (by simp)) af st AX2
      rw [hD.out] at KE
      have E1 : Hid (storeJ n first k j g bs s = keepJ n first k j ⟨2, g, bs⟩ af s) := by
        have := storeJ_k (n := n) (first := first) (Int.not_le.2 H1.out) (Nat.not_lt.2 H2.out) HC.out (by rw [haf.out]; exact hfull)
        rw [haf.out] at this; exact this
      rw [← E1.out, hR.out] at KE
      have LX2 := LX.out X3 gX2
      have x0 := L2.cell x0 (by simp)
      have x1 := L2.cell x1 (by simp)
      have x2 := L2.cell x2 (by simp)
      have HKX : Hid (Kp [q] w X3) := kX2
      clear gX2 JX2 IX2 AX2 fX2 kX2
      go_wp2_with (refine wpList_load_by rfl 68 (.tmp 8) rfl _ _ rfl LX2 ?_)
      with_reducible refine KE.mono ?_
      rintro e Y ⟨rfl, yF, yJ, yK⟩
      have HFIN : Hid (KeepPost w p B n cap q first k S R (.returned (.int .i64 R.1)) Y) := ⟨rfl, yF, yJ, (HKX.out.more (by simp)).trans yK⟩
      clear yF yJ yK KE
      go_wp2_with fail
      go_ret
      exact HFIN.out
#print axioms store_any
end Go.Proofs.Ytgpbmccjcjoijaa
