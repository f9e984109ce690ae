/-
  The walk of Restore.
-/
import Derived.Test.YtgpbmccjcjoijaaJw
namespace Go.Proofs.Ytgpbmccjcjoijaa
open Go.RowKit

theorem gflat_mark : ∀ (all : List Gp) (ss : List SL) (i : Nat) (g : Gp), all.length = ss.length → all[i]? = some g → gflat (all.set i { g with marked := true }) ss = (gflat all ss).set (i * 3 + 1) (.bool true)
  | g0 :: gs, s :: ss, 0, g, _, h => by
    obtain rfl : g0 = g := by simpa using h
    rfl
  | g0 :: gs, s :: ss, i + 1, g, hl, h => by
    have := gflat_mark gs ss i g (by simpa using hl) (by simpa using h)
    show gcell g0 s ++ gflat (gs.set i _) ss = (gcell g0 s ++ gflat gs ss).set ((i + 1) * 3 + 1) _
    rw [this, List.set_append_right _ _ (by simp [gcell]; omega)]
    congr 2
    simp [gcell]; omega
  | [], _, _, _, _, h => by simp at h
theorem GB.mark {w : World} {gb : Nat} {all : List Gp} {ss : List SL} (h : GB w gb all ss) (hl : all.length = ss.length) (i : Nat) (g : Gp) (hg : all[i]? = some g) : GB (w.setCell ⟨gb, i * 3 + 1, none⟩ (.bool true)) gb (all.set i { g with marked := true }) ss := by
  show _ = _
  rw [heap_setCell_same w gb (i * 3 + 1) _ _ _ h, gflat_mark all ss i g hl hg, List.setIfInBounds_toArray]
theorem IsG.mark {w : World} {S : List Nat} {all : List Gp} {ss : List SL} (h : IsG w S all ss) (i : Nat) (g : Gp) (hg : all[i]? = some g) : IsG w S (all.set i { g with marked := true }) ss := ⟨by simp [h.n1], h.n2, fun i' g' s' h1 h2 => by
  by_cases e : i' = i
  · subst e
    have hi : i' < all.length := by
      by_cases hh : i' < all.length
      · exact hh
      · simp [hh] at hg
    rw [List.getElem?_set_self hi] at h1
    obtain rfl := Option.some.inj h1
    exact h.row i' g s' hg h2
  · rw [List.getElem?_set_ne (Ne.symm e)] at h1
    exact h.row i' g' s' h1 h2⟩
/-- A group marked: what is answered, the journal behind it, the flash. -/
def restoreJ (n first k : Nat) (j : JS) (i : Nat) (g : Gp) (s : FS) : Int × JS × FS :=
  if j.cut || s.of then (7, { j with cut := true }, s) else if g.there then (if g.marked then (0, j, s) else keepJ n first k j ⟨3, (i : Int), []⟩ (j.all.set i { g with marked := true }) s) else (5, j, s)
theorem restoreJ_c {n first k : Nat} {j : JS} {i : Nat} {g : Gp} {s : FS} (h : (j.cut || s.of) = true) : restoreJ n first k j i g s = (7, { j with cut := true }, s) := by unfold restoreJ; rw [if_pos h]
theorem restoreJ_n {n first k : Nat} {j : JS} {i : Nat} {g : Gp} {s : FS} (h : (j.cut || s.of) = false) (ht : g.there = false) : restoreJ n first k j i g s = (5, j, s) := by unfold restoreJ; rw [if_neg (by rw [h]; decide), if_neg (by rw [ht]; decide)]
theorem restoreJ_m {n first k : Nat} {j : JS} {i : Nat} {g : Gp} {s : FS} (h : (j.cut || s.of) = false) (ht : g.there = true) (hm : g.marked = true) : restoreJ n first k j i g s = (0, j, s) := by unfold restoreJ; rw [if_neg (by rw [h]; decide), if_pos ht, if_pos hm]
theorem restoreJ_k {n first k : Nat} {j : JS} {i : Nat} {g : Gp} {s : FS} (h : (j.cut || s.of) = false) (ht : g.there = true) (hm : g.marked = false) : restoreJ n first k j i g s = keepJ n first k j ⟨3, (i : Int), []⟩ (j.all.set i { g with marked := true }) s := by unfold restoreJ; rw [if_neg (by rw [h]; decide), if_pos ht, if_neg (by rw [hm]; decide)]

set_option linter.unusedSimpArgs false in
set_option maxHeartbeats 4000000 in
set_option maxRecDepth 100000 in
theorem restore_big {w : World} (q : Nat) (g : Int) (hg : 16 ≤ g) :
    Calls Try.prog 13 #[.pointer (some ⟨q, 0, none⟩), .int .u8 g] w fun e w' => e = .returned (.int .i64 62) ∧ w' = w := by
  go_enter Try.func13, Try.ntmps13
  go_wp2_with fail
  go_ret
  exact ⟨rfl, rfl⟩

set_option linter.unusedSimpArgs false in
set_option maxHeartbeats 8000000 in
set_option maxRecDepth 100000 in
theorem restore_any {w : World} {p B n cap : Nat} {s : FS} (hF : IsS w p B n cap s) (m : Nat) (hm : s.Le m) (hm2 : m ≤ 700000000) {q first k : Nat} {j : JS} {S : List Nat} (hJ : IsJ w S q p first k j) (hOk : j.Ok k) (hqp : q ≠ p) (hqB : q ≠ B) (hk : 1 ≤ k) (hfk : first + k + k ≤ n) (hpS : p ∈ S) (hBS : B ∈ S) (hqS : q ∈ S) (i : Nat) (g : Gp) (hg : j.all[i]? = some g) :
    Calls Try.prog 13 #[.pointer (some ⟨q, 0, none⟩), .int .u8 (i : Int)] w fun e w' => KeepPost w p B n cap q first k S (restoreJ n first k j i g s) e w' := by
  have hlt := hF.lt
  obtain ⟨ss, hB, hI⟩ := hJ
  have hB : JB w q p (j.f1 first k) (j.f2 first k) k j.bg j.num j.en j.all ss j.cut := hB
  have hq : q < w.heap.size := lt_of_heap hB
  have hi : i < 16 := by
    by_cases hh : i < j.all.length
    · have := hI.n1; omega
    · simp [hh] at hg
  obtain ⟨R, hR⟩ : ∃ R, Hid (restoreJ n first k j i g s = R) := ⟨_, rfl⟩
  rw [hR.out]
  have HF0 : Hid (IsS w p B n cap s) := hF
  have HI0 : Hid (IsG w S j.all ss) := hI
  have HG0 : Hid (j.all[i]? = some g) := hg
  have GN := gone_any hF hB hI.n1 hI.n2
  have qS : Hid (∀ x ∈ [q], x ∈ S) := fun x hx => by simp at hx; subst hx; exact hqS
  have g1 : ¬ (16 : Int) ≤ i := by omega
  have g2 : (i : Int) < 16 := by omega
  have g3 : (0 : Int) ≤ i := by omega
  have N1 : Hid (j.all.length = 16) := hI.n1
  have N2 : Hid (ss.length = 16) := hI.n2
  clear hB hI hF hg
  go_enter Try.func13, Try.ntmps13
  go_wp2_with fail
  with_reducible refine GN.mono ?_
  rintro e U ⟨rfl, hJU, hKU⟩
  clear GN
  have HJU : Hid (JB U q p (j.f1 first k) (j.f2 first k) k j.bg j.num j.en j.all ss (j.cut || s.of)) := hJU
  have HKU : Hid (Kp [q] w U) := hKU
  have HIU : Hid (IsG U S j.all ss) := HI0.out.kp hKU qS.out
  have HFU : Hid (IsS U p B n cap s) := HF0.out.kp hKU (by simpa using Ne.symm hqp) (by simpa using Ne.symm hqB)
  clear hJU hKU
  by_cases hc : (j.cut || s.of) = true
  · have HFIN : Hid (KeepPost w p B n cap q first k S R (.returned (.int .i64 7)) U) := by
      rw [← hR.out, restoreJ_c hc]
      exact ⟨rfl, HFU.out, ⟨ss, by have := HJU.out; rw [hc] at this; exact this, HIU.out⟩, HKU.out.more (by simp)⟩
    rw [hc]
    clear HJU
    go_wp2_with fail
    go_ret
    exact HFIN.out
  have hc : (j.cut || s.of) = false := by simpa using hc
  have hcj : j.cut = false := by revert hc; cases j.cut <;> simp
  rw [hc] at HJU
  rw [hc]
  have HC : Hid ((j.cut || s.of) = false) := hc
  have HCJ : Hid (j.cut = false) := hcj
  have HJC : Hid (JB U q p (j.f1 first k) (j.f2 first k) k j.bg j.num j.en j.all ss j.cut) := by show JB _ _ _ _ _ _ _ _ _ _ _ _; rw [hcj]; exact HJU.out
  clear hc hcj
  obtain ⟨c0, c1, _⟩ := HJU.out.grp N1.out N2.out i g (ss[i]'(by rw [N2.out]; exact hi)) HG0.out (List.getElem?_eq_getElem _)
  by_cases ht : g.there = false
  · have HFIN : Hid (KeepPost w p B n cap q first k S R (.returned (.int .i64 5)) U) := by
      rw [← hR.out, restoreJ_n HC.out ht]
      exact ⟨rfl, HFU.out, ⟨ss, HJC.out, HIU.out⟩, HKU.out.more (by simp)⟩
    rw [ht] at c0
    clear HJU ht
    go_wp2_with fail
    go_ret
    exact HFIN.out
  have ht : g.there = true := by simpa using ht
  by_cases hmk : g.marked = true
  · have HFIN : Hid (KeepPost w p B n cap q first k S R (.returned (.int .i64 0)) U) := by
      rw [← hR.out, restoreJ_m HC.out ht hmk]
      exact ⟨rfl, HFU.out, ⟨ss, HJC.out, HIU.out⟩, HKU.out.more (by simp)⟩
    rw [ht] at c0
    rw [hmk] at c1
    clear HJU ht hmk
    go_wp2_with fail
    go_ret
    exact HFIN.out
  have hmk : g.marked = false := by simpa using hmk
  have E1 : Hid (R = keepJ n first k j ⟨3, (i : Int), []⟩ (j.all.set i { g with marked := true }) s) := by show R = _; rw [← hR.out]; exact restoreJ_k HC.out ht hmk
  rw [ht] at c0
  rw [hmk] at c1
  clear ht hmk
  have LJ := HJU.out.load68 N1.out N2.out
  have KA : Kp [] U (U.alloc (.cells z48 68)) := (Kp.refl _ _).al _
  have h0 : (U.alloc (.cells z48 68)).heap[U.heap.size]? = some (.cells z48 68 (0, 0)) := heap_alloc_new U _
  have S48 := store68 (by rfl) h0 j.all ss N1.out N2.out
  have gV : ((U.alloc (.cells z48 68)).setRow U.heap.size (gflat j.all ss).toArray).heap[U.heap.size]? = some (.cells (gflat j.all ss).toArray 68 (0, 0)) := setRow_heap _ _ _ _ _ _ h0
  have KV : Kp [] U ((U.alloc (.cells z48 68)).setRow U.heap.size (gflat j.all ss).toArray) := KA.row _ _ (.inr (by omega))
  have hl12 : j.all.length = ss.length := by rw [N1.out, N2.out]
  have gM := GB.mark gV hl12 i g HG0.out
  have cV := (gflat_at j.all ss i g (ss[i]'(by rw [N2.out]; exact hi)) HG0.out (List.getElem?_eq_getElem _)).2.1
  have cM := cell_of_row _ U.heap.size (i * 3 + 1) _ _ _ gV
  rw [List.getElem?_toArray, cV] at cM
  have fM := frozen_of_row _ U.heap.size (i * 3 + 1) _ _ gV
  have KM : Kp [] U (((U.alloc (.cells z48 68)).setRow U.heap.size (gflat j.all ss).toArray).setCell ⟨U.heap.size, i * 3 + 1, none⟩ (.bool true)) := KV.set _ _ (.inr (by show U.heap.size ≤ U.heap.size; omega))
  have LM := load68 (by rw [List.length_set]; exact N1.out) N2.out gM
  have uq : q < U.heap.size := by have := HKU.out.size; omega
  have KE := keep_any (HFU.out.kp KM (by simp) (by simp)) m hm hm2 ⟨ss, (KM.block q uq (by simp)).trans HJC.out, HIU.out.kp KM (by simp)⟩ hOk hqp hqB hk hfk hpS hBS hqS ⟨3, (i : Int), []⟩ ⟨by show (0 : Int) ≤ 3; decide, by show (3 : Int) < 256; decide, g3, g2, oct_nil, by simp⟩ none 0 0 (row_nil _) _ ss ((HIU.out.kp KM (by simp)).mark i g HG0.out)
  rw [← E1.out] at KE
  obtain ⟨C, hC⟩ : ∃ C, Hid ((gflat j.all ss).toArray = C) := ⟨_, rfl⟩
  obtain ⟨D, hD⟩ : ∃ D, Hid ((gflat (j.all.set i { g with marked := true }) ss).toArray = D) := ⟨_, rfl⟩
  rw [hD.out] at LM KE
  rw [hC.out] at LJ S48 KM cM fM LM KE
  have HKM : Hid (Kp [q] w _) := HKU.out.trans (KM.more (by simp))
  clear KA h0 gV gM KV KM cV hl12
  have hok := KE
  clear KE
  go_wp2_with (first | refine wpList_alloc68 rfl rfl ?_ | refine wpList_load_by rfl 68 (.tmp 34) rfl _ _ rfl LJ ?_ | refine wpList_store_by rfl 68 (.tmp 5) (.tmp 35) rfl _ _ rfl rfl S48 ?_ | refine wpList_load_by rfl 68 (.tmp 5) rfl _ _ rfl LM ?_)
  with_reducible refine hok.mono ?_
  rintro e Y ⟨rfl, yF, yJ, yK⟩
  have HFIN : Hid (KeepPost w p B n cap q first k S R (.returned (.int .i64 R.1)) Y) := ⟨rfl, yF, yJ, (HKM.out.more (by simp)).trans yK⟩
  clear yF yJ yK hok
  go_wp2_with fail
  go_ret
  exact HFIN.out
#print axioms restore_any
end Go.Proofs.Ytgpbmccjcjoijaa
