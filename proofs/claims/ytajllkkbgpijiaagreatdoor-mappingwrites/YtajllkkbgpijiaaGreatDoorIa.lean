/-
  Places that are not there: hasIndex, find, Find.
-/
import Derived.Test.YtajllkkbgpijiaaGreatDoorHr
import Derived.Test.YtajllkkbgpijiaaGreatDoorDe
import Derived.Test.YtajllkkbgpijiaaGreatDoorDn
import Derived.Test.YtajllkkbgpijiaaGreatDoorTk9
namespace Go.Proofs.YtajllkkbgpijiaaGreatDoor
open Go.RowKit

/-- Has any entry that index? -/
def anyI (lst : Mp) (i : Int) : Bool := lst.any fun x => x.1 == i

set_option linter.unusedSimpArgs false in
set_option maxHeartbeats 4000000 in
set_option maxRecDepth 100000 in
theorem hasIndex_any (p m : Nat) (cg : Int) (lst : Mp) (i : Int) (w : World) (hp : w.heap[p]? = some (.cells #[.map (some m), .int .i64 cg] 91 (0, 0))) (hm : IsM w m lst) :
    Calls Tryz.prog 60 #[.pointer (some ⟨p, 0, none⟩), .int .u16 i] w fun e w' => e = .returned (.bool (anyI lst i)) ∧ Below w.heap.size w w' := by
  have lm := hm.lt
  have lp := lt_of_heap hp
  obtain ⟨es, clock, hb, he, hs⟩ := hm
  have KQ := kq_of he
  have c0 : w.cell? ⟨p, 0, none⟩ = some (.map (some m)) := by rw [cell_of_row _ _ 0 _ _ _ hp]; rfl
  obtain ⟨b, hbb⟩ : ∃ b, Hid (b = anyI lst i) := ⟨_, rfl⟩
  rw [← hbb.out]
  have HA : Hid (b = es.toList.any fun e => (kq e).i == i) := by
    show _ = _
    rw [hbb.out]
    unfold anyI
    have e1 : lst.any (fun x => x.1 == i) = (lst.map fun x => (⟨x.1, x.2.1⟩ : Pq)).any (fun q => q.i == i) := by rw [List.any_map]; rfl
    rw [e1, ← KQ.1, List.any_map]
    rfl
  have K2 : Hid (∀ e ∈ es.toList, e.key = .agg (kq e).A) := KQ.2
  have KS : Hid (Stm es clock) := hs
  have HB : Hid (w.heap[m]? = some (.map es clock)) := hb
  clear KQ he hs hp
  go_enter Tryz.func60, Tryz.ntmps60
  go_wp2_with (at_range; refine wpList_range_m rfl _ rfl m es clock rfl hb ?_)
  go_frame
  clear hb c0
  go_loopw [11] (fun _ wr => ∃ (seen : Array Nat), Hid (wr.heap[w.heap.size]? = some (.mapIter (some m) clock seen clock) ∧ Below w.heap.size w wr ∧ w.heap.size + 1 ≤ wr.heap.size ∧ (∀ e ∈ es.toList, seen.contains e.born = true → (kq e).i ≠ i)))
    (fun _ wr => wr.rangeLeft m w.heap.size)
  case atStart => exact ⟨#[], heap_new _ _, (by repeat (first | exact Below.refl _ _ | apply Below.drew | apply Below.al)), by simp, fun e _ h => by simp at h⟩
  case round =>
    obtain ⟨seen, H⟩ := hrel
    have hr := H.out.1
    have hb' : wr.heap[m]? = some (.map es clock) := (H.out.2.1.block m lm).trans HB.out
    go_wp2_with (first | (at_next; refine wpList_next_m rfl _ rfl m w.heap.size clock seen es rfl hr hb' KS.out (by omega) ?_ ?_) | go_in)
    · intro h0
      have HF : Hid (b = false) := by
        show _ = _
        rw [HA.out, List.any_eq_false]
        intro e hes
        have hc : seen.contains e.born = true := by
          have hn : e ∉ (leftOf es seen).toList := by
            have h1 : (leftOf es seen).toList = [] := by simpa using h0
            rw [h1]; simp
          unfold leftOf at hn
          rw [Array.toList_filter, List.mem_filter] at hn
          cases hq : seen.contains e.born with
          | true => rfl
          | false => exact absurd ⟨hes, by rw [hq]; rfl⟩ hn
        have := H.out.2.2.2 e hes hc
        simpa using this
      have R : Hid (Below w.heap.size w wr) := H.out.2.1
      go_wp2_with fail
      go_ret
      exact ⟨by rw [HF.out]; rfl, R.out⟩
    · intro e w1 hmem hes hsz1 hkp hr1 hen
      have hes' : e ∈ es.toList := by simpa using hes
      have ek := K2.out e hes'
      obtain ⟨y, hy⟩ : ∃ y, Hid (y = kq e) := ⟨_, rfl⟩
      rw [ek, ← hy.out] at hen ⊢
      have HK : Hid (e ∈ (leftOf es seen).toList) := by show _ ∈ _; simpa using hmem
      have E0 : Hid (e ∈ es.toList) := hes'
      have E2 : Hid (w1.heap[w.heap.size]? = some (.mapIter (some m) clock (seen.push e.born) clock)) := hr1
      have E5 : Hid (Below w.heap.size w w1) := Kp.below H.out.2.1 hkp (by have := H.out.2.1.size; omega) (by simp)
      have E4 : Hid (w1.heap.size = wr.heap.size) := hsz1
      clear hmem hes hes' hkp hr1 ek hsz1
      by_cases hyi : y.i = i
      · have HT : Hid (b = true) := by
          show _ = _
          rw [HA.out, List.any_eq_true]
          exact ⟨e, E0.out, by rw [← hy.out]; simpa using hyi⟩
        subst hyi
        go_wp2_with fail
        go_ret
        exact ⟨by rw [HT.out]; rfl, Below.al E5.out _⟩
      · have PL := left_push KS.out.2 HK.out
        have ML : Hid ((leftOf es (seen.push e.born)).size < (leftOf es seen).size) := by
          have := PL.length_eq
          simp at this
          show _ < _
          omega
        have SN : Hid (∀ e' ∈ es.toList, (seen.push e.born).contains e'.born = true → (kq e').i ≠ i) := fun e' he' hc => by
          have hc2 : seen.contains e'.born = true ∨ e'.born = e.born := by
            have := Array.contains_iff_mem.1 hc
            rcases Array.mem_push.1 this with h | h
            · exact .inl (Array.contains_iff_mem.2 h)
            · exact .inr h
          rcases hc2 with h | h
          · exact H.out.2.2.2 e' he' h
          · have : e' = e := by
              have nd := KS.out.2
              obtain ⟨i1, h1, e1⟩ := List.getElem_of_mem he'
              obtain ⟨i2, h2, e2⟩ := List.getElem_of_mem E0.out
              have : i1 = i2 := (List.getElem_inj (xs := es.toList.map (·.born)) (h₀ := by simpa using h1) (h₁ := by simpa using h2) nd).1 (by simp only [List.getElem_map, e1, e2, h])
              subst this
              rw [← e1, ← e2]
            rw [this, ← hy.out]
            exact hyi
        have hm9 : ∀ o, (w1.alloc o).heap[m]? = some (.map es clock) := fun o => (Below.heap_alloc _ _ _ (by have := E5.out.size; omega)).trans ((E5.out.block m lm).trans HB.out)
        have hr9 : ∀ o, (w1.alloc o).heap[w.heap.size]? = some (.mapIter (some m) clock (seen.push e.born) clock) := fun o => ext11 E2.out
        have HM9 : Hid (∀ o, (w1.alloc o).heap[m]? = some (.map es clock)) := hm9
        have HR9 : Hid (∀ o, (w1.alloc o).heap[w.heap.size]? = some (.mapIter (some m) clock (seen.push e.born) clock)) := hr9
        have SZ : Hid (w.heap.size + 1 ≤ w1.heap.size) := by have := H.out.2.2.1; have := E4.out; show _ ≤ _; omega
        clear hm9 hr9 PL
        go_wp2_with fail
        refine ⟨⟨seen.push e.born, HR9.out _, Below.al E5.out _, by have := SZ.out; simp; omega, SN.out⟩, ?_⟩
        simp only [World.rangeLeft, HR9.out, HM9.out, hr, hb']
        exact ML.out
#print axioms hasIndex_any
/-- Why a place is not there. -/
def missC (lst : Mp) (i : Int) : Int := if anyI lst i then 101253137 else 100794368
theorem miss_ne (lst : Mp) (i : Int) : missC lst i ≠ 0 := by unfold missC; split <;> decide
theorem zeroI (w : World) : (zeroValue 95).run Tryz.prog w = .ok (.agg (itC 0 0 ⟨#[]⟩ 0 0 none 0 0 none 0 0 none 0 0 0 0 none 0 0)) w := by kernel_rfl

set_option linter.unusedSimpArgs false in
set_option maxHeartbeats 4000000 in
set_option maxRecDepth 100000 in
theorem find_miss (p m : Nat) (cg : Int) (lst : Mp) (i s : Int) (w : World) (hp : w.heap[p]? = some (.cells #[.map (some m), .int .i64 cg] 91 (0, 0))) (hm : IsM w m lst) (hl : lookP lst i s = none) :
    Calls Tryz.prog 41 #[.pointer (some ⟨p, 0, none⟩), plV i s] w fun e w' => e = .returned (.tuple #[.agg (itC 0 0 ⟨#[]⟩ 0 0 none 0 0 none 0 0 none 0 0 0 0 none 0 0), .int .u32 (missC lst i)]) ∧ Below w.heap.size w w' := by
  have HX : Hid (∀ W, Below w.heap.size w W → Calls Tryz.prog 60 #[.pointer (some ⟨p, 0, none⟩), .int .u16 i] W fun e w' => e = .returned (.bool (anyI lst i)) ∧ Below W.heap.size W w') := fun W hb => hasIndex_any p m cg lst i W (blk11 hb hp) (hm.next hb)
  have HP : Hid (w.heap[p]? = some (.cells #[.map (some m), .int .i64 cg] 91 (0, 0))) := hp
  have HM : Hid (IsM w m lst) := hm
  have HL : Hid (lookP lst i s = none) := hl
  have lp : p < w.heap.size := lt_of_heap hp
  have lm : m < w.heap.size := hm.lt
  clear hp hm hl
  go_enter Tryz.func41, Tryz.ntmps41
  go_wp2_with fail
  refine wp_region_held_drew (S := fun x => Below w.heap.size w x ∧ x.heap[p]? = some (.cells #[.map (some m), .int .i64 cg] 91 (0, 0)) ∧ IsM x m lst ∧ x.heap[w.heap.size]? = some (.cells #[.int .u16 i, .int .u8 s] 43 (0, 0)) ∧ x.heap[w.heap.size + 1]? = some (.cells (itC 0 0 ⟨#[]⟩ 0 0 none 0 0 none 0 0 none 0 0 0 0 none 0 0) 95 (0, 0))) (by kernel_rfl) (⟨Below.drew (by repeat (first | exact Below.refl _ _ | apply Below.drew | apply Below.al)), ext11 (ext11 HP.out), (HM.out.next (by repeat (first | exact Below.refl _ _ | apply Below.drew | apply Below.al))), ext11 (at11 _ _ _ rfl), at11 _ _ _ (by simp)⟩) (fun hHeld => ?_)
  refine tk 0 (.pointer (some ⟨p, 0, none⟩)) rfl (.inl ⟨by rfl, ?_⟩) ?_
  · intro w9 hSw
    try dsimp only at hSw
    go_simp
    all_goals try decide
    all_goals try assumption
    all_goals try omega
  try simp only [Act.put, gA, gS, gZ, sA, sZ, sS]
  refine tk 1 (.pointer (some ⟨p, 0, none⟩)) rfl (.inl ⟨by rfl, ?_⟩) ?_
  · intro w9 hSw
    try dsimp only at hSw
    go_simp
    all_goals try decide
    all_goals try assumption
    all_goals try omega
  try simp only [Act.put, gA, gS, gZ, sA, sZ, sS]
  refine tk 2 (.pointer (some ⟨p, 0, none⟩)) rfl (.inl ⟨by rfl, ?_⟩) ?_
  · intro w9 hSw
    try dsimp only at hSw
    go_simp
    all_goals try decide
    all_goals try assumption
    all_goals try omega
  try simp only [Act.put, gA, gS, gZ, sA, sZ, sS]
  refine tk 3 (.map (some m)) rfl (.inl ⟨by rfl, ?_⟩) ?_
  · intro w9 hSw
    try dsimp only at hSw
    have c0 : w9.cell? ⟨p, 0, none⟩ = some (.map (some m)) := by rw [cell_of_row _ _ 0 _ _ _ hSw.2.1]; rfl
    go_simp
    all_goals try assumption
  try simp only [Act.put, gA, gS, gZ, sA, sZ, sS]
  refine tk 4 (plV i s) rfl (.inl ⟨by rfl, ?_⟩) ?_
  · intro w9 hSw
    try dsimp only at hSw
    exact ex_load11 43 (.tmp 3) rfl _ _ rfl (load_part 43 2 sizeP aggP _ (w.heap.size) 0 [.int .u16 i, .int .u8 s] _ hSw.2.2.2.1 (by simp))
  try simp only [Act.put, gA, gS, gZ, sA, sZ, sS]
  refine tk 5 (.tuple #[.agg (itC 0 0 ⟨#[]⟩ 0 0 none 0 0 none 0 0 none 0 0 0 0 none 0 0), .bool false]) rfl (.inl ⟨by rfl, ?_⟩) ?_
  · intro w9 hSw
    try dsimp only at hSw
    exact ex_look 89 (.tmp 15) (.tmp 16) true rfl _ _ _ rfl rfl (look_no _ m lst i s _ (zeroI _) hSw.2.2.1 HL.out)
  try simp only [Act.put, gA, gS, gZ, sA, sZ, sS]
  refine tk 6 (.tuple #[.agg (itC 0 0 ⟨#[]⟩ 0 0 none 0 0 none 0 0 none 0 0 0 0 none 0 0), .bool false]) rfl (.inl ⟨by rfl, ?_⟩) ?_
  · intro w9 hSw
    try dsimp only at hSw
    go_simp
    all_goals try decide
    all_goals try assumption
    all_goals try omega
  try simp only [Act.put, gA, gS, gZ, sA, sZ, sS]
  refine tk 7 (.agg (itC 0 0 ⟨#[]⟩ 0 0 none 0 0 none 0 0 none 0 0 0 0 none 0 0)) rfl (.inl ⟨by rfl, ?_⟩) ?_
  · intro w9 hSw
    try dsimp only at hSw
    go_simp
    all_goals try decide
    all_goals try assumption
    all_goals try omega
  try simp only [Act.put, gA, gS, gZ, sA, sZ, sS]
  refine tk 8 (.bool false) rfl (.inl ⟨by rfl, ?_⟩) ?_
  · intro w9 hSw
    try dsimp only at hSw
    go_simp
    all_goals try decide
    all_goals try assumption
    all_goals try omega
  try simp only [Act.put, gA, gS, gZ, sA, sZ, sS]
  refine wpAnyH_ready (rs := [9]) (by kernel_rfl) (by simp) ?_
  refine AllReadyH.cons rfl (fun K' hK => ?_) AllReadyH.nil
  rw [if_pos (by rfl)]
  simp only [gA, gS, gZ]
  go_wp2_with fail
  refine hK.out _ _ (⟨Below.al hHeld.1 _, ext11 hHeld.2.1, hHeld.2.2.1.next (Below.al (Below.refl _ _) _), ext11 hHeld.2.2.2.1, ext11 hHeld.2.2.2.2⟩) (fun hHeld => ?_)
  clear hK K'
  try simp only [Act.put, gA, gS, gZ, sA, sZ, sS]
  refine wpAnyH_ready (rs := [10]) (by kernel_rfl) (by simp) ?_
  refine AllReadyH.cons rfl (fun K' hK => ?_) AllReadyH.nil
  rw [if_pos (by rfl)]
  simp only [gA, gS, gZ]
  refine wp_store_by 95 _ _ rfl ⟨w.heap.size + 1 + 1, 0, none⟩ _ rfl rfl (storeI _ _ _ 0 0 ⟨#[]⟩ 0 0 none 0 0 none 0 0 none 0 0 0 0 none 0 0 _ (at11 _ (.cells (itC 0 0 ⟨#[]⟩ 0 0 none 0 0 none 0 0 none 0 0 0 0 none 0 0) 95) _ (by simp)) rfl) ?_
  refine hK.out _ _ (⟨below_setRow hHeld.1 (by omega) _, (setRow_other _ _ _ _ (by omega)).trans hHeld.2.1, hHeld.2.2.1.kp (Kp.row (S := [w.heap.size + 1 + 1]) (Kp.refl _ _) _ _ (.inl (by simp))) (by simp; omega), (setRow_other _ _ _ _ (by omega)).trans hHeld.2.2.2.1, (setRow_other _ _ _ _ (by omega)).trans hHeld.2.2.2.2⟩) (fun hHeld => ?_)
  clear hK K'
  try simp only [Act.put, gA, gS, gZ, sA, sZ, sS]
  refine tk 11 (.bool false) rfl (.inl ⟨by rfl, ?_⟩) ?_
  · intro w9 hSw
    try dsimp only at hSw
    go_simp
    all_goals try decide
    all_goals try assumption
    all_goals try omega
  try simp only [Act.put, gA, gS, gZ, sA, sZ, sS]
  refine wpAnyH_done (by kernel_rfl) ?_ _
  obtain ⟨W4, HW4⟩ : ∃ W4, Hid ((((w.alloc (.cells #[.int .u16 i, .int .u8 s] 43)).alloc (.cells (itC 0 0 ⟨#[]⟩ 0 0 none 0 0 none 0 0 none 0 0 0 0 none 0 0) 95)).alloc (.cells (itC 0 0 ⟨#[]⟩ 0 0 none 0 0 none 0 0 none 0 0 0 0 none 0 0) 95)).drew.setRow (w.heap.size + 1 + 1) (itC 0 0 ⟨#[]⟩ 0 0 none 0 0 none 0 0 none 0 0 0 0 none 0 0) = W4) := ⟨_, rfl⟩
  have B4 : Hid (Below w.heap.size w W4) := by show Below _ _ _; rw [← HW4.out]; exact hHeld.1
  have X4 : Hid (W4.heap[w.heap.size + 1 + 1]? = some (.cells (itC 0 0 ⟨#[]⟩ 0 0 none 0 0 none 0 0 none 0 0 0 0 none 0 0) 95 (0, 0))) := by show _ = _; rw [← HW4.out]; exact setRow_heap _ _ _ _ _ _ (at11 _ (.cells (itC 0 0 ⟨#[]⟩ 0 0 none 0 0 none 0 0 none 0 0 0 0 none 0 0) 95) _ (by simp))
  have P4 : Hid (W4.heap[w.heap.size]? = some (.cells #[.int .u16 i, .int .u8 s] 43 (0, 0))) := by show _ = _; rw [← HW4.out]; exact hHeld.2.2.2.1
  have R4 : Hid (W4.heap[w.heap.size + 1]? = some (.cells (itC 0 0 ⟨#[]⟩ 0 0 none 0 0 none 0 0 none 0 0 0 0 none 0 0) 95 (0, 0))) := by show _ = _; rw [← HW4.out]; exact hHeld.2.2.2.2
  rw [show (((w.alloc _).alloc _).alloc _).drew.setRow (w.heap.size + 1 + 1) _ = W4 from HW4.out]
  clear hHeld HW4
  obtain ⟨b, hb⟩ : ∃ b, Hid (b = anyI lst i) := ⟨_, rfl⟩
  have HC : Hid (missC lst i = if b then 101253137 else 100794368) := by show _ = _; unfold missC; rw [hb.out]
  rw [← hb.out] at HX
  have q0 : W4.cell? ⟨w.heap.size, 0, none⟩ = some (.int .u16 i) := by rw [cell_of_row _ _ 0 _ _ _ P4.out]; rfl
  go_wp2_with fail
  refine (HX.out _ B4.out).mono ?_
  rintro e W5 ⟨rfl, hb5⟩
  have B5 : Hid (Below w.heap.size w W5) := Below.andThen B4.out hb5
  have R5 : Hid (W5.heap[w.heap.size + 1]? = some (.cells (itC 0 0 ⟨#[]⟩ 0 0 none 0 0 none 0 0 none 0 0 0 0 none 0 0) 95 (0, 0))) := blk11 hb5 R4.out
  clear hb5 q0
  cases b with
  | true =>
    go_wp2_with (refine wpList_store_by rfl 95 _ _ rfl ⟨w.heap.size + 1, 0, none⟩ _ rfl rfl (storeI _ _ _ 0 0 ⟨#[]⟩ 0 0 none 0 0 none 0 0 none 0 0 0 0 none 0 0 _ R5.out rfl) ?_)
    have hcc := fun j => cell_of_row _ (w.heap.size + 1) j _ _ _ (setRow_heap _ _ _ (itC 0 0 ⟨#[]⟩ 0 0 none 0 0 none 0 0 none 0 0 0 0 none 0 0) _ _ R5.out)
    refine bodyPost_ret (v := .tuple #[.agg (itC 0 0 ⟨#[]⟩ 0 0 none 0 0 none 0 0 none 0 0 0 0 none 0 0), .int .u32 101253137]) ?_ rfl ⟨by rw [HC.out]; rfl, below_setRow B5.out (Nat.le_succ _) _⟩
    simp [results, Tryz.results41, go_sem, hcc]
  | false =>
    go_wp2_with (refine wpList_store_by rfl 95 _ _ rfl ⟨w.heap.size + 1, 0, none⟩ _ rfl rfl (storeI _ _ _ 0 0 ⟨#[]⟩ 0 0 none 0 0 none 0 0 none 0 0 0 0 none 0 0 _ R5.out rfl) ?_)
    have hcc := fun j => cell_of_row _ (w.heap.size + 1) j _ _ _ (setRow_heap _ _ _ (itC 0 0 ⟨#[]⟩ 0 0 none 0 0 none 0 0 none 0 0 0 0 none 0 0) _ _ R5.out)
    refine bodyPost_ret (v := .tuple #[.agg (itC 0 0 ⟨#[]⟩ 0 0 none 0 0 none 0 0 none 0 0 0 0 none 0 0), .int .u32 100794368]) ?_ rfl ⟨by rw [HC.out]; rfl, below_setRow B5.out (Nat.le_succ _) _⟩
    simp [results, Tryz.results41, go_sem, hcc]
#print axioms find_miss
set_option linter.unusedSimpArgs false in
set_option maxHeartbeats 4000000 in
set_option maxRecDepth 100000 in
theorem findE_miss (p m : Nat) (cg : Int) (lst : Mp) (i s : Int) (w : World) (hp : w.heap[p]? = some (.cells #[.map (some m), .int .i64 cg] 91 (0, 0))) (hm : IsM w m lst) (hl : lookP lst i s = none) (mc : Int) (hmc : mc = missC lst i) : Calls Tryz.prog 64 #[.pointer (some ⟨p, 0, none⟩), plV i s] w fun e w' => e = .returned (.tuple #[.agg (enC 0 0 ⟨#[]⟩ 0 0 none 0 0 none 0 0 none 0 0 0 0), .int .u32 mc]) ∧ Below w.heap.size w w' := by
  have HF : Hid (∀ W, Below w.heap.size w W → Calls Tryz.prog 41 #[.pointer (some ⟨p, 0, none⟩), plV i s] W fun e w' => e = .returned (.tuple #[.agg (itC 0 0 ⟨#[]⟩ 0 0 none 0 0 none 0 0 none 0 0 0 0 none 0 0), .int .u32 mc]) ∧ Below W.heap.size W w') := fun W hb => by rw [hmc]; exact find_miss p m cg lst i s W (blk11 hb hp) (hm.next hb) hl
  have mz : mc ≠ 0 := by rw [hmc]; exact miss_ne lst i
  clear hp hm hl hmc
  go_enter Tryz.func64, Tryz.ntmps64
  go_wp2_with fail
  refine (HF.out _ (by repeat (first | exact Below.refl _ _ | apply Below.drew | apply Below.al))).mono ?_
  rintro e w1 ⟨rfl, hb⟩
  have B1 : Hid (Below w.heap.size w w1) := Below.andThen (by repeat (first | exact Below.refl _ _ | apply Below.drew | apply Below.al)) hb
  have R1 : Hid (w1.heap[w.heap.size + 1]? = some (.cells (enC 0 0 ⟨#[]⟩ 0 0 none 0 0 none 0 0 none 0 0 0 0) 52 (0, 0))) := blk11 hb (at11 _ _ _ (by simp))
  have lr1 := lt_of_heap R1.out
  clear hb
  go_wp2_with (refine wpList_store_by rfl 52 _ _ rfl ⟨w.heap.size + 1, 0, none⟩ _ rfl rfl (storeE _ _ _ 0 0 ⟨#[]⟩ 0 0 none 0 0 none 0 0 none 0 0 0 0 _ (ext11 R1.out) rfl) ?_)
  have hcc := fun j => cell_of_row _ (w.heap.size + 1) j _ _ _ (setRow_heap _ _ _ (enC 0 0 ⟨#[]⟩ 0 0 none 0 0 none 0 0 none 0 0 0 0) _ _ (ext11 (o := .cells (itC 0 0 ⟨#[]⟩ 0 0 none 0 0 none 0 0 none 0 0 0 0 none 0 0) 95) R1.out))
  refine bodyPost_ret (v := .tuple #[.agg (enC 0 0 ⟨#[]⟩ 0 0 none 0 0 none 0 0 none 0 0 0 0), .int .u32 mc]) ?_ rfl ⟨rfl, below_setRow (Below.al B1.out _) (Nat.le_succ _) _⟩
  simp [results, Tryz.results64, go_sem, hcc]
end Go.Proofs.YtajllkkbgpijiaaGreatDoor
