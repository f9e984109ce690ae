/-
  The document's right: whether an entry may be.
-/
import Derived.Test.YtajllkkbgpijiaaGreatDoorXa
import Derived.Test.YtajllkkbgpijiaaGreatDoorTk9
namespace Go.Proofs.YtajllkkbgpijiaaGreatDoor
open Go.RowKit

theorem chk8 (t : Int) (a lo hi : Option Addr) (la ca ll cl lh ch : Nat) (za zl zh : List Int) (w : World) (ra : SlOk w a la ca za) (rl : SlOk w lo ll cl zl) (rh : SlOk w hi lh ch zh) :
    Calls Tryz.prog 53 #[.int .u8 t, .slice a la ca, .slice lo ll cl, .slice hi lh ch] w fun e w' => e = .returned (.int .u32 (Ty.chkN t za zl zh)) ∧ Below w.heap.size w w' :=
  Ty.refCheck_any t a lo hi la ca ll cl lh ch za zl zh w ra.row.ty rl.row.ty rh.row.ty ra.le ra.max rl.le rl.max rh.le rh.max
theorem let_kind (t : Int) : (Ty.Pl.letN t != 0) = (Ty.Pl.kindN t != 0) := by
  have h := (Ty.let_is t).2.2.2.2.2.2
  by_cases k : Ty.Pl.kindN t = 0
  · rw [h.2 k, k]
  · have k' : Ty.Pl.letN t ≠ 0 := fun e => k (h.1 e)
    have a : (Ty.Pl.letN t != 0) = true := by simpa using k'
    have b : (Ty.Pl.kindN t != 0) = true := by simpa using k
    rw [a, b]
set_option linter.unusedSimpArgs false in
set_option maxHeartbeats 4000000 in
set_option maxRecDepth 100000 in
theorem right8 (i s : Int) (nm : ByteArray) (t rt : Int) (d : Option Addr) (ld cd : Nat) (l : Option Addr) (ll cl : Nat) (h : Option Addr) (lh ch : Nat) (tg gr : Int) (zd zl zh : List Int) (w : World) (rd : SlOk w d ld cd zd) (rl : SlOk w l ll cl zl) (rh : SlOk w h lh ch zh) (b1 : ld ≤ 16777216) :
    Calls Tryz.prog 42 #[.agg (enC i s nm t rt d ld cd l ll cl h lh ch tg gr)] w fun e w' => e = .returned (.bool (mayB nm t rt gr zd zl zh)) ∧ Below w.heap.size w w' := by
  have HRT : Hid (∀ W, Calls Tryz.prog 61 #[.int .u8 t] W fun e w' => e = .returned (.bool (Ty.Pl.kindN t != 0)) ∧ Below W.heap.size W w') := fun W => by rw [← let_kind]; exact (Ty.refRight_any t W).mono fun e w' ⟨h1, h2⟩ => ⟨h1, by rw [h2]; exact Below.refl _ _⟩
  have HCL : Hid (∀ W, Below w.heap.size w W → Calls Tryz.prog 53 #[.int .u8 t, .slice l ll cl, .slice none 0 0, .slice none 0 0] W fun e w' => e = .returned (.int .u32 (Ty.chkN t zl [] [])) ∧ Below W.heap.size W w') := fun W hW => chk8 t l none none ll cl 0 0 0 0 zl [] [] W (rl.next hW) (slOk_nil W) (slOk_nil W)
  have HCH : Hid (∀ W, Below w.heap.size w W → Calls Tryz.prog 53 #[.int .u8 t, .slice h lh ch, .slice none 0 0, .slice none 0 0] W fun e w' => e = .returned (.int .u32 (Ty.chkN t zh [] [])) ∧ Below W.heap.size W w') := fun W hW => chk8 t h none none lh ch 0 0 0 0 zh [] [] W (rh.next hW) (slOk_nil W) (slOk_nil W)
  have HFI : Hid (∀ W, Below w.heap.size w W → Calls Tryz.prog 44 #[.agg (enC i s nm t rt d ld cd l ll cl h lh ch tg gr)] W fun e w' => ∃ a n c, e = .returned (.slice a n c) ∧ SlOk w' a n c (firstL t zd) ∧ Below W.heap.size W w') := fun W hW => first_any i s nm t rt d ld cd l ll cl h lh ch tg gr zd W (rd.next hW) b1
  have HCK : Hid (∀ W, Below w.heap.size w W → ∀ a n c, SlOk W a n c (firstL t zd) → Calls Tryz.prog 53 #[.int .u8 t, .slice a n c, .slice l ll cl, .slice h lh ch] W fun e w' => e = .returned (.int .u32 (Ty.chkN t (firstL t zd) zl zh)) ∧ Below W.heap.size W w') := fun W hW a n c hs => chk8 t a l h n c ll cl lh ch _ zl zh W hs (rl.next hW) (rh.next hW)
  have LL : Hid (zl.length = ll) := rl.row.size
  have LH : Hid (zh.length = lh) := rh.row.size
  obtain ⟨M, HM⟩ : ∃ M, Hid (M = mayB nm t rt gr zd zl zh) := ⟨_, rfl⟩
  rw [← HM.out]
  obtain ⟨kb, HK0⟩ : ∃ kb, Hid (kb = (Ty.Pl.kindN t != 0)) := ⟨_, rfl⟩
  rw [← HK0.out] at HRT
  obtain ⟨cL, HL⟩ : ∃ c, Hid (c = Ty.chkN t zl [] []) := ⟨_, rfl⟩
  obtain ⟨cH, HH⟩ : ∃ c, Hid (c = Ty.chkN t zh [] []) := ⟨_, rfl⟩
  obtain ⟨cK, HK⟩ : ∃ c, Hid (c = Ty.chkN t (firstL t zd) zl zh) := ⟨_, rfl⟩
  rw [← HL.out] at HCL
  rw [← HH.out] at HCH
  rw [← HK.out] at HCK
  have MB : Hid (M = (kb && decide (rt ≤ 15) && decide (gr ≤ 16) && decide (nm.size ≤ 100) && (decide (ll = 0) || cL == 0) && (decide (lh = 0) || cH == 0) && cK == 0)) := by
    show _ = _
    rw [HM.out, HK0.out, HL.out, HH.out, HK.out]
    unfold mayB boundB
    rw [LL.out, LH.out]
    rfl
  clear rd rl rh HM HK0 HL HH HK LL LH
  go_enter Tryz.func42, Tryz.ntmps42
  go_wp2_with fail
  refine (HRT.out _).mono ?_
  rintro e w1 ⟨rfl, hb⟩
  have B1 : Hid (Below w.heap.size w w1) := Below.andThen (by repeat (first | exact Below.refl _ _ | apply Below.drew | apply Below.al)) hb
  have X1 : Hid (w1.heap[w.heap.size]? = some (.cells (enC i s nm t rt d ld cd l ll cl h lh ch tg gr) 52 (0, 0))) := blk11 hb (at11 _ _ _ rfl)
  clear hb
  have k0 : w1.cell? ⟨w.heap.size, 0, none⟩ = some (.int .u16 i) := by rw [cell_of_row _ _ 0 _ _ _ X1.out]; rfl
  have k1 : w1.cell? ⟨w.heap.size, 1, none⟩ = some (.int .u8 s) := by rw [cell_of_row _ _ 1 _ _ _ X1.out]; rfl
  have k2 : w1.cell? ⟨w.heap.size, 2, none⟩ = some (.string nm) := by rw [cell_of_row _ _ 2 _ _ _ X1.out]; rfl
  have k3 : w1.cell? ⟨w.heap.size, 3, none⟩ = some (.int .u8 t) := by rw [cell_of_row _ _ 3 _ _ _ X1.out]; rfl
  have k4 : w1.cell? ⟨w.heap.size, 4, none⟩ = some (.int .u8 rt) := by rw [cell_of_row _ _ 4 _ _ _ X1.out]; rfl
  have k5 : w1.cell? ⟨w.heap.size, 5, none⟩ = some (.slice d ld cd) := by rw [cell_of_row _ _ 5 _ _ _ X1.out]; rfl
  have k6 : w1.cell? ⟨w.heap.size, 6, none⟩ = some (.slice l ll cl) := by rw [cell_of_row _ _ 6 _ _ _ X1.out]; rfl
  have k7 : w1.cell? ⟨w.heap.size, 7, none⟩ = some (.slice h lh ch) := by rw [cell_of_row _ _ 7 _ _ _ X1.out]; rfl
  have k8 : w1.cell? ⟨w.heap.size, 8, none⟩ = some (.int .u8 tg) := by rw [cell_of_row _ _ 8 _ _ _ X1.out]; rfl
  have k9 : w1.cell? ⟨w.heap.size, 9, none⟩ = some (.int .u8 gr) := by rw [cell_of_row _ _ 9 _ _ _ X1.out]; rfl
  cases kb
  case false =>
    have M0 : Hid (M = false) := by show _ = _; rw [MB.out]; simp
    go_wp2_with fail
    go_ret
    exact ⟨by rw [M0.out]; rfl, B1.out⟩
  by_cases trt : 15 < rt
  case pos =>
    have grt : (15 : Int) < rt := by omega
    have M0 : Hid (M = false) := by show _ = _; rw [MB.out]; simp; omega
    go_wp2_with fail
    go_ret
    exact ⟨by rw [M0.out]; rfl, B1.out⟩
  have grt : ¬ ((15 : Int) < rt) := by omega
  by_cases tgr : 16 < gr
  case pos =>
    have ggr : (16 : Int) < gr := by omega
    have M0 : Hid (M = false) := by show _ = _; rw [MB.out]; simp; omega
    go_wp2_with fail
    go_ret
    exact ⟨by rw [M0.out]; rfl, B1.out⟩
  have ggr : ¬ ((16 : Int) < gr) := by omega
  by_cases tnmsize : 100 < nm.size
  case pos =>
    have gnmsize : (100 : Int) < (nm.size : Int) := by omega
    have M0 : Hid (M = false) := by show _ = _; rw [MB.out]; simp; omega
    go_wp2_with fail
    go_ret
    exact ⟨by rw [M0.out]; rfl, B1.out⟩
  have gnmsize : ¬ ((100 : Int) < (nm.size : Int)) := by omega
  by_cases hL : ll = 0
  case pos =>
    have gL : ¬ ((0 : Int) < (ll : Int)) := by omega
    have HLL : Hid (ll = 0) := hL
    clear hL
    by_cases hH : lh = 0
    case pos =>
      have gH : ¬ ((0 : Int) < (lh : Int)) := by omega
      have HHH : Hid (lh = 0) := hH
      clear hH
      obtain ⟨cz, HCZ⟩ : ∃ cz, Hid (cz = (cK == 0)) := ⟨_, rfl⟩
      have M1 : Hid (M = cz) := by show _ = _; rw [MB.out, HCZ.out]; simp [HLL.out, HHH.out]; try omega
      have CZ : (cK == 0) = cz := HCZ.out.symm
      have CD : decide (cK = 0) = cz := by rw [HCZ.out]; rfl
      go_wp2_with fail
      refine wp_region_held_drew (S := fun z => Below w1.heap.size w1 z) (by kernel_rfl) (Below.drew (Below.refl _ _)) (fun hHeld => ?_)
      refine tk 0 (.pointer (some ⟨w.heap.size, 3, none⟩)) rfl (.inl ⟨by rfl, ?_⟩) ?_
      · intro w9 hSw
        try dsimp only at hSw
        go_simp
        all_goals try decide
        all_goals try assumption
        all_goals try omega
      try simp only [Act.put, gA, gS, gZ, sA, sZ, sS]
      refine tk 1 (.int .u8 t) rfl (.inl ⟨by rfl, ?_⟩) ?_
      · intro w9 hSw
        try dsimp only at hSw
        have c0 : w9.cell? ⟨w.heap.size, 3, none⟩ = some (.int .u8 t) := by rw [cell_of_row _ _ 3 _ _ _ (blk11 hSw X1.out)]; rfl
        go_simp
        all_goals try assumption
      try simp only [Act.put, gA, gS, gZ, sA, sZ, sS]
      refine tk 2 (.agg (enC i s nm t rt d ld cd l ll cl h lh ch tg gr)) rfl (.inl ⟨by rfl, ?_⟩) ?_
      · intro w9 hSw
        try dsimp only at hSw
        exact ex_load11 52 (.tmp 1) rfl _ _ rfl (loadE _ _ i s nm t rt d ld cd l ll cl h lh ch tg gr _ (blk11 hSw X1.out))
      try simp only [Act.put, gA, gS, gZ, sA, sZ, sS]
      refine tk 4 (.pointer (some ⟨w.heap.size, 6, none⟩)) rfl (.inl ⟨by rfl, ?_⟩) ?_
      · intro w9 hSw
        try dsimp only at hSw
        go_simp
        all_goals try decide
        all_goals try assumption
        all_goals try omega
      try simp only [Act.put, gA, gS, gZ, sA, sZ, sS]
      refine tk 5 (.slice l ll cl) rfl (.inl ⟨by rfl, ?_⟩) ?_
      · intro w9 hSw
        try dsimp only at hSw
        have c0 : w9.cell? ⟨w.heap.size, 6, none⟩ = some (.slice l ll cl) := by rw [cell_of_row _ _ 6 _ _ _ (blk11 hSw X1.out)]; rfl
        go_simp
        all_goals try assumption
      try simp only [Act.put, gA, gS, gZ, sA, sZ, sS]
      refine tk 6 (.pointer (some ⟨w.heap.size, 7, none⟩)) rfl (.inl ⟨by rfl, ?_⟩) ?_
      · intro w9 hSw
        try dsimp only at hSw
        go_simp
        all_goals try decide
        all_goals try assumption
        all_goals try omega
      try simp only [Act.put, gA, gS, gZ, sA, sZ, sS]
      refine tk 7 (.slice h lh ch) rfl (.inl ⟨by rfl, ?_⟩) ?_
      · intro w9 hSw
        try dsimp only at hSw
        have c0 : w9.cell? ⟨w.heap.size, 7, none⟩ = some (.slice h lh ch) := by rw [cell_of_row _ _ 7 _ _ _ (blk11 hSw X1.out)]; rfl
        go_simp
        all_goals try assumption
      try simp only [Act.put, gA, gS, gZ, sA, sZ, sS]
      refine wpAnyH_ready (rs := [3]) (by kernel_rfl) (by simp) ?_
      refine AllReadyH.cons rfl (fun K' hK => ?_) AllReadyH.nil
      rw [if_pos (by rfl)]
      simp only [gA, gS, gZ]
      go_wp2_with fail
      refine (HFI.out _ (Below.andThen B1.out hHeld)).mono ?_
      rintro e z3 ⟨fa, fn, fc, rfl, hq3, hb3⟩
      have N3 : Hid (Below w1.heap.size w1 z3) := Below.andThen hHeld hb3
      have Q3 : Hid (SlOk z3 fa fn fc (firstL t zd)) := hq3
      clear hq3 hb3
      try go_wp2_with fail
      refine hK.out _ _ (N3.out) (fun hHeld => ?_)
      clear hK K'
      try simp only [Act.put, gA, gS, gZ, sA, sZ, sS]
      refine wpAnyH_ready (rs := [8]) (by kernel_rfl) (by simp) ?_
      refine AllReadyH.cons rfl (fun K' hK => ?_) AllReadyH.nil
      rw [if_pos (by rfl)]
      simp only [gA, gS, gZ]
      go_wp2_with fail
      refine (HCK.out _ (Below.andThen B1.out hHeld) fa fn fc Q3.out).mono ?_
      rintro e z4 ⟨rfl, hb4⟩
      have N4 : Hid (Below w1.heap.size w1 z4) := Below.andThen hHeld hb4
      clear hb4
      try go_wp2_with fail
      refine hK.out _ _ (N4.out) (fun hHeld => ?_)
      clear hK K'
      try simp only [Act.put, gA, gS, gZ, sA, sZ, sS]
      refine tk 9 (.bool cz) rfl (.inl ⟨by rfl, ?_⟩) ?_
      · intro w9 hSw
        try dsimp only at hSw
        go_simp
        all_goals try assumption
      try simp only [Act.put, gA, gS, gZ, sA, sZ, sS]
      refine tk 10 (.bool cz) rfl (.inl ⟨by rfl, ?_⟩) ?_
      · intro w9 hSw
        try dsimp only at hSw
        go_simp
        all_goals try decide
        all_goals try assumption
        all_goals try omega
      try simp only [Act.put, gA, gS, gZ, sA, sZ, sS]
      refine wpAnyH_done (by kernel_rfl) ?_ _
      have B9 : Hid (Below w.heap.size w z4) := Below.andThen B1.out hHeld
      go_wp2_with fail
      go_ret
      exact ⟨by rw [M1.out]; rfl, B9.out⟩
    have gH : (0 : Int) < (lh : Int) := by omega
    go_wp2_with fail
    refine (HCH.out _ B1.out).mono ?_
    rintro e wH ⟨rfl, hb⟩
    have BH : Hid (Below w.heap.size w wH) := Below.andThen B1.out hb
    have XH : Hid (wH.heap[w.heap.size]? = some (.cells (enC i s nm t rt d ld cd l ll cl h lh ch tg gr) 52 (0, 0))) := blk11 hb X1.out
    clear hb
    clear k0 k1 k2 k3 k4 k5 k6 k7 k8 k9
    have k0 : wH.cell? ⟨w.heap.size, 0, none⟩ = some (.int .u16 i) := by rw [cell_of_row _ _ 0 _ _ _ XH.out]; rfl
    have k1 : wH.cell? ⟨w.heap.size, 1, none⟩ = some (.int .u8 s) := by rw [cell_of_row _ _ 1 _ _ _ XH.out]; rfl
    have k2 : wH.cell? ⟨w.heap.size, 2, none⟩ = some (.string nm) := by rw [cell_of_row _ _ 2 _ _ _ XH.out]; rfl
    have k3 : wH.cell? ⟨w.heap.size, 3, none⟩ = some (.int .u8 t) := by rw [cell_of_row _ _ 3 _ _ _ XH.out]; rfl
    have k4 : wH.cell? ⟨w.heap.size, 4, none⟩ = some (.int .u8 rt) := by rw [cell_of_row _ _ 4 _ _ _ XH.out]; rfl
    have k5 : wH.cell? ⟨w.heap.size, 5, none⟩ = some (.slice d ld cd) := by rw [cell_of_row _ _ 5 _ _ _ XH.out]; rfl
    have k6 : wH.cell? ⟨w.heap.size, 6, none⟩ = some (.slice l ll cl) := by rw [cell_of_row _ _ 6 _ _ _ XH.out]; rfl
    have k7 : wH.cell? ⟨w.heap.size, 7, none⟩ = some (.slice h lh ch) := by rw [cell_of_row _ _ 7 _ _ _ XH.out]; rfl
    have k8 : wH.cell? ⟨w.heap.size, 8, none⟩ = some (.int .u8 tg) := by rw [cell_of_row _ _ 8 _ _ _ XH.out]; rfl
    have k9 : wH.cell? ⟨w.heap.size, 9, none⟩ = some (.int .u8 gr) := by rw [cell_of_row _ _ 9 _ _ _ XH.out]; rfl
    by_cases hcH : cH = 0
    case neg =>
      have M0 : Hid (M = false) := by show _ = _; rw [MB.out]; simp [hH, hcH]
      go_wp2_with fail
      go_ret
      exact ⟨by rw [M0.out]; rfl, BH.out⟩
    subst hcH
    obtain ⟨cz, HCZ⟩ : ∃ cz, Hid (cz = (cK == 0)) := ⟨_, rfl⟩
    have M1 : Hid (M = cz) := by show _ = _; rw [MB.out, HCZ.out]; simp [HLL.out]; try omega
    have CZ : (cK == 0) = cz := HCZ.out.symm
    have CD : decide (cK = 0) = cz := by rw [HCZ.out]; rfl
    go_wp2_with fail
    refine wp_region_held_drew (S := fun z => Below wH.heap.size wH z) (by kernel_rfl) (Below.drew (Below.refl _ _)) (fun hHeld => ?_)
    refine tk 0 (.pointer (some ⟨w.heap.size, 3, none⟩)) rfl (.inl ⟨by rfl, ?_⟩) ?_
    · intro w9 hSw
      try dsimp only at hSw
      go_simp
      all_goals try decide
      all_goals try assumption
      all_goals try omega
    try simp only [Act.put, gA, gS, gZ, sA, sZ, sS]
    refine tk 1 (.int .u8 t) rfl (.inl ⟨by rfl, ?_⟩) ?_
    · intro w9 hSw
      try dsimp only at hSw
      have c0 : w9.cell? ⟨w.heap.size, 3, none⟩ = some (.int .u8 t) := by rw [cell_of_row _ _ 3 _ _ _ (blk11 hSw XH.out)]; rfl
      go_simp
      all_goals try assumption
    try simp only [Act.put, gA, gS, gZ, sA, sZ, sS]
    refine tk 2 (.agg (enC i s nm t rt d ld cd l ll cl h lh ch tg gr)) rfl (.inl ⟨by rfl, ?_⟩) ?_
    · intro w9 hSw
      try dsimp only at hSw
      exact ex_load11 52 (.tmp 1) rfl _ _ rfl (loadE _ _ i s nm t rt d ld cd l ll cl h lh ch tg gr _ (blk11 hSw XH.out))
    try simp only [Act.put, gA, gS, gZ, sA, sZ, sS]
    refine tk 4 (.pointer (some ⟨w.heap.size, 6, none⟩)) rfl (.inl ⟨by rfl, ?_⟩) ?_
    · intro w9 hSw
      try dsimp only at hSw
      go_simp
      all_goals try decide
      all_goals try assumption
      all_goals try omega
    try simp only [Act.put, gA, gS, gZ, sA, sZ, sS]
    refine tk 5 (.slice l ll cl) rfl (.inl ⟨by rfl, ?_⟩) ?_
    · intro w9 hSw
      try dsimp only at hSw
      have c0 : w9.cell? ⟨w.heap.size, 6, none⟩ = some (.slice l ll cl) := by rw [cell_of_row _ _ 6 _ _ _ (blk11 hSw XH.out)]; rfl
      go_simp
      all_goals try assumption
    try simp only [Act.put, gA, gS, gZ, sA, sZ, sS]
    refine tk 6 (.pointer (some ⟨w.heap.size, 7, none⟩)) rfl (.inl ⟨by rfl, ?_⟩) ?_
    · intro w9 hSw
      try dsimp only at hSw
      go_simp
      all_goals try decide
      all_goals try assumption
      all_goals try omega
    try simp only [Act.put, gA, gS, gZ, sA, sZ, sS]
    refine tk 7 (.slice h lh ch) rfl (.inl ⟨by rfl, ?_⟩) ?_
    · intro w9 hSw
      try dsimp only at hSw
      have c0 : w9.cell? ⟨w.heap.size, 7, none⟩ = some (.slice h lh ch) := by rw [cell_of_row _ _ 7 _ _ _ (blk11 hSw XH.out)]; rfl
      go_simp
      all_goals try assumption
    try simp only [Act.put, gA, gS, gZ, sA, sZ, sS]
    refine wpAnyH_ready (rs := [3]) (by kernel_rfl) (by simp) ?_
    refine AllReadyH.cons rfl (fun K' hK => ?_) AllReadyH.nil
    rw [if_pos (by rfl)]
    simp only [gA, gS, gZ]
    go_wp2_with fail
    refine (HFI.out _ (Below.andThen BH.out hHeld)).mono ?_
    rintro e z3 ⟨fa, fn, fc, rfl, hq3, hb3⟩
    have N3 : Hid (Below wH.heap.size wH z3) := Below.andThen hHeld hb3
    have Q3 : Hid (SlOk z3 fa fn fc (firstL t zd)) := hq3
    clear hq3 hb3
    try go_wp2_with fail
    refine hK.out _ _ (N3.out) (fun hHeld => ?_)
    clear hK K'
    try simp only [Act.put, gA, gS, gZ, sA, sZ, sS]
    refine wpAnyH_ready (rs := [8]) (by kernel_rfl) (by simp) ?_
    refine AllReadyH.cons rfl (fun K' hK => ?_) AllReadyH.nil
    rw [if_pos (by rfl)]
    simp only [gA, gS, gZ]
    go_wp2_with fail
    refine (HCK.out _ (Below.andThen BH.out hHeld) fa fn fc Q3.out).mono ?_
    rintro e z4 ⟨rfl, hb4⟩
    have N4 : Hid (Below wH.heap.size wH z4) := Below.andThen hHeld hb4
    clear hb4
    try go_wp2_with fail
    refine hK.out _ _ (N4.out) (fun hHeld => ?_)
    clear hK K'
    try simp only [Act.put, gA, gS, gZ, sA, sZ, sS]
    refine tk 9 (.bool cz) rfl (.inl ⟨by rfl, ?_⟩) ?_
    · intro w9 hSw
      try dsimp only at hSw
      go_simp
      all_goals try assumption
    try simp only [Act.put, gA, gS, gZ, sA, sZ, sS]
    refine tk 10 (.bool cz) rfl (.inl ⟨by rfl, ?_⟩) ?_
    · intro w9 hSw
      try dsimp only at hSw
      go_simp
      all_goals try decide
      all_goals try assumption
      all_goals try omega
    try simp only [Act.put, gA, gS, gZ, sA, sZ, sS]
    refine wpAnyH_done (by kernel_rfl) ?_ _
    have B9 : Hid (Below w.heap.size w z4) := Below.andThen BH.out hHeld
    go_wp2_with fail
    go_ret
    exact ⟨by rw [M1.out]; rfl, B9.out⟩
  have gL : (0 : Int) < (ll : Int) := by omega
  go_wp2_with fail
  refine (HCL.out _ B1.out).mono ?_
  rintro e wL ⟨rfl, hb⟩
  have BL : Hid (Below w.heap.size w wL) := Below.andThen B1.out hb
  have XL : Hid (wL.heap[w.heap.size]? = some (.cells (enC i s nm t rt d ld cd l ll cl h lh ch tg gr) 52 (0, 0))) := blk11 hb X1.out
  clear hb
  clear k0 k1 k2 k3 k4 k5 k6 k7 k8 k9
  have k0 : wL.cell? ⟨w.heap.size, 0, none⟩ = some (.int .u16 i) := by rw [cell_of_row _ _ 0 _ _ _ XL.out]; rfl
  have k1 : wL.cell? ⟨w.heap.size, 1, none⟩ = some (.int .u8 s) := by rw [cell_of_row _ _ 1 _ _ _ XL.out]; rfl
  have k2 : wL.cell? ⟨w.heap.size, 2, none⟩ = some (.string nm) := by rw [cell_of_row _ _ 2 _ _ _ XL.out]; rfl
  have k3 : wL.cell? ⟨w.heap.size, 3, none⟩ = some (.int .u8 t) := by rw [cell_of_row _ _ 3 _ _ _ XL.out]; rfl
  have k4 : wL.cell? ⟨w.heap.size, 4, none⟩ = some (.int .u8 rt) := by rw [cell_of_row _ _ 4 _ _ _ XL.out]; rfl
  have k5 : wL.cell? ⟨w.heap.size, 5, none⟩ = some (.slice d ld cd) := by rw [cell_of_row _ _ 5 _ _ _ XL.out]; rfl
  have k6 : wL.cell? ⟨w.heap.size, 6, none⟩ = some (.slice l ll cl) := by rw [cell_of_row _ _ 6 _ _ _ XL.out]; rfl
  have k7 : wL.cell? ⟨w.heap.size, 7, none⟩ = some (.slice h lh ch) := by rw [cell_of_row _ _ 7 _ _ _ XL.out]; rfl
  have k8 : wL.cell? ⟨w.heap.size, 8, none⟩ = some (.int .u8 tg) := by rw [cell_of_row _ _ 8 _ _ _ XL.out]; rfl
  have k9 : wL.cell? ⟨w.heap.size, 9, none⟩ = some (.int .u8 gr) := by rw [cell_of_row _ _ 9 _ _ _ XL.out]; rfl
  by_cases hcL : cL = 0
  case neg =>
    have M0 : Hid (M = false) := by show _ = _; rw [MB.out]; simp [hL, hcL]
    go_wp2_with fail
    go_ret
    exact ⟨by rw [M0.out]; rfl, BL.out⟩
  subst hcL
  by_cases hH : lh = 0
  case pos =>
    have gH : ¬ ((0 : Int) < (lh : Int)) := by omega
    have HHH : Hid (lh = 0) := hH
    clear hH
    obtain ⟨cz, HCZ⟩ : ∃ cz, Hid (cz = (cK == 0)) := ⟨_, rfl⟩
    have M1 : Hid (M = cz) := by show _ = _; rw [MB.out, HCZ.out]; simp [Nat.le_refl, HHH.out]; try omega
    have CZ : (cK == 0) = cz := HCZ.out.symm
    have CD : decide (cK = 0) = cz := by rw [HCZ.out]; rfl
    go_wp2_with fail
    refine wp_region_held_drew (S := fun z => Below wL.heap.size wL z) (by kernel_rfl) (Below.drew (Below.refl _ _)) (fun hHeld => ?_)
    refine tk 0 (.pointer (some ⟨w.heap.size, 3, none⟩)) rfl (.inl ⟨by rfl, ?_⟩) ?_
    · intro w9 hSw
      try dsimp only at hSw
      go_simp
      all_goals try decide
      all_goals try assumption
      all_goals try omega
    try simp only [Act.put, gA, gS, gZ, sA, sZ, sS]
    refine tk 1 (.int .u8 t) rfl (.inl ⟨by rfl, ?_⟩) ?_
    · intro w9 hSw
      try dsimp only at hSw
      have c0 : w9.cell? ⟨w.heap.size, 3, none⟩ = some (.int .u8 t) := by rw [cell_of_row _ _ 3 _ _ _ (blk11 hSw XL.out)]; rfl
      go_simp
      all_goals try assumption
    try simp only [Act.put, gA, gS, gZ, sA, sZ, sS]
    refine tk 2 (.agg (enC i s nm t rt d ld cd l ll cl h lh ch tg gr)) rfl (.inl ⟨by rfl, ?_⟩) ?_
    · intro w9 hSw
      try dsimp only at hSw
      exact ex_load11 52 (.tmp 1) rfl _ _ rfl (loadE _ _ i s nm t rt d ld cd l ll cl h lh ch tg gr _ (blk11 hSw XL.out))
    try simp only [Act.put, gA, gS, gZ, sA, sZ, sS]
    refine tk 4 (.pointer (some ⟨w.heap.size, 6, none⟩)) rfl (.inl ⟨by rfl, ?_⟩) ?_
    · intro w9 hSw
      try dsimp only at hSw
      go_simp
      all_goals try decide
      all_goals try assumption
      all_goals try omega
    try simp only [Act.put, gA, gS, gZ, sA, sZ, sS]
    refine tk 5 (.slice l ll cl) rfl (.inl ⟨by rfl, ?_⟩) ?_
    · intro w9 hSw
      try dsimp only at hSw
      have c0 : w9.cell? ⟨w.heap.size, 6, none⟩ = some (.slice l ll cl) := by rw [cell_of_row _ _ 6 _ _ _ (blk11 hSw XL.out)]; rfl
      go_simp
      all_goals try assumption
    try simp only [Act.put, gA, gS, gZ, sA, sZ, sS]
    refine tk 6 (.pointer (some ⟨w.heap.size, 7, none⟩)) rfl (.inl ⟨by rfl, ?_⟩) ?_
    · intro w9 hSw
      try dsimp only at hSw
      go_simp
      all_goals try decide
      all_goals try assumption
      all_goals try omega
    try simp only [Act.put, gA, gS, gZ, sA, sZ, sS]
    refine tk 7 (.slice h lh ch) rfl (.inl ⟨by rfl, ?_⟩) ?_
    · intro w9 hSw
      try dsimp only at hSw
      have c0 : w9.cell? ⟨w.heap.size, 7, none⟩ = some (.slice h lh ch) := by rw [cell_of_row _ _ 7 _ _ _ (blk11 hSw XL.out)]; rfl
      go_simp
      all_goals try assumption
    try simp only [Act.put, gA, gS, gZ, sA, sZ, sS]
    refine wpAnyH_ready (rs := [3]) (by kernel_rfl) (by simp) ?_
    refine AllReadyH.cons rfl (fun K' hK => ?_) AllReadyH.nil
    rw [if_pos (by rfl)]
    simp only [gA, gS, gZ]
    go_wp2_with fail
    refine (HFI.out _ (Below.andThen BL.out hHeld)).mono ?_
    rintro e z3 ⟨fa, fn, fc, rfl, hq3, hb3⟩
    have N3 : Hid (Below wL.heap.size wL z3) := Below.andThen hHeld hb3
    have Q3 : Hid (SlOk z3 fa fn fc (firstL t zd)) := hq3
    clear hq3 hb3
    try go_wp2_with fail
    refine hK.out _ _ (N3.out) (fun hHeld => ?_)
    clear hK K'
    try simp only [Act.put, gA, gS, gZ, sA, sZ, sS]
    refine wpAnyH_ready (rs := [8]) (by kernel_rfl) (by simp) ?_
    refine AllReadyH.cons rfl (fun K' hK => ?_) AllReadyH.nil
    rw [if_pos (by rfl)]
    simp only [gA, gS, gZ]
    go_wp2_with fail
    refine (HCK.out _ (Below.andThen BL.out hHeld) fa fn fc Q3.out).mono ?_
    rintro e z4 ⟨rfl, hb4⟩
    have N4 : Hid (Below wL.heap.size wL z4) := Below.andThen hHeld hb4
    clear hb4
    try go_wp2_with fail
    refine hK.out _ _ (N4.out) (fun hHeld => ?_)
    clear hK K'
    try simp only [Act.put, gA, gS, gZ, sA, sZ, sS]
    refine tk 9 (.bool cz) rfl (.inl ⟨by rfl, ?_⟩) ?_
    · intro w9 hSw
      try dsimp only at hSw
      go_simp
      all_goals try assumption
    try simp only [Act.put, gA, gS, gZ, sA, sZ, sS]
    refine tk 10 (.bool cz) rfl (.inl ⟨by rfl, ?_⟩) ?_
    · intro w9 hSw
      try dsimp only at hSw
      go_simp
      all_goals try decide
      all_goals try assumption
      all_goals try omega
    try simp only [Act.put, gA, gS, gZ, sA, sZ, sS]
    refine wpAnyH_done (by kernel_rfl) ?_ _
    have B9 : Hid (Below w.heap.size w z4) := Below.andThen BL.out hHeld
    go_wp2_with fail
    go_ret
    exact ⟨by rw [M1.out]; rfl, B9.out⟩
  have gH : (0 : Int) < (lh : Int) := by omega
  go_wp2_with fail
  refine (HCH.out _ BL.out).mono ?_
  rintro e wH ⟨rfl, hb⟩
  have BH : Hid (Below w.heap.size w wH) := Below.andThen BL.out hb
  have XH : Hid (wH.heap[w.heap.size]? = some (.cells (enC i s nm t rt d ld cd l ll cl h lh ch tg gr) 52 (0, 0))) := blk11 hb XL.out
  clear hb
  clear k0 k1 k2 k3 k4 k5 k6 k7 k8 k9
  have k0 : wH.cell? ⟨w.heap.size, 0, none⟩ = some (.int .u16 i) := by rw [cell_of_row _ _ 0 _ _ _ XH.out]; rfl
  have k1 : wH.cell? ⟨w.heap.size, 1, none⟩ = some (.int .u8 s) := by rw [cell_of_row _ _ 1 _ _ _ XH.out]; rfl
  have k2 : wH.cell? ⟨w.heap.size, 2, none⟩ = some (.string nm) := by rw [cell_of_row _ _ 2 _ _ _ XH.out]; rfl
  have k3 : wH.cell? ⟨w.heap.size, 3, none⟩ = some (.int .u8 t) := by rw [cell_of_row _ _ 3 _ _ _ XH.out]; rfl
  have k4 : wH.cell? ⟨w.heap.size, 4, none⟩ = some (.int .u8 rt) := by rw [cell_of_row _ _ 4 _ _ _ XH.out]; rfl
  have k5 : wH.cell? ⟨w.heap.size, 5, none⟩ = some (.slice d ld cd) := by rw [cell_of_row _ _ 5 _ _ _ XH.out]; rfl
  have k6 : wH.cell? ⟨w.heap.size, 6, none⟩ = some (.slice l ll cl) := by rw [cell_of_row _ _ 6 _ _ _ XH.out]; rfl
  have k7 : wH.cell? ⟨w.heap.size, 7, none⟩ = some (.slice h lh ch) := by rw [cell_of_row _ _ 7 _ _ _ XH.out]; rfl
  have k8 : wH.cell? ⟨w.heap.size, 8, none⟩ = some (.int .u8 tg) := by rw [cell_of_row _ _ 8 _ _ _ XH.out]; rfl
  have k9 : wH.cell? ⟨w.heap.size, 9, none⟩ = some (.int .u8 gr) := by rw [cell_of_row _ _ 9 _ _ _ XH.out]; rfl
  by_cases hcH : cH = 0
  case neg =>
    have M0 : Hid (M = false) := by show _ = _; rw [MB.out]; simp [hH, hcH]
    go_wp2_with fail
    go_ret
    exact ⟨by rw [M0.out]; rfl, BH.out⟩
  subst hcH
  obtain ⟨cz, HCZ⟩ : ∃ cz, Hid (cz = (cK == 0)) := ⟨_, rfl⟩
  have M1 : Hid (M = cz) := by show _ = _; rw [MB.out, HCZ.out]; simp [Nat.le_refl]; try omega
  have CZ : (cK == 0) = cz := HCZ.out.symm
  have CD : decide (cK = 0) = cz := by rw [HCZ.out]; rfl
  go_wp2_with fail
  refine wp_region_held_drew (S := fun z => Below wH.heap.size wH z) (by kernel_rfl) (Below.drew (Below.refl _ _)) (fun hHeld => ?_)
  refine tk 0 (.pointer (some ⟨w.heap.size, 3, none⟩)) rfl (.inl ⟨by rfl, ?_⟩) ?_
  · intro w9 hSw
    try dsimp only at hSw
    go_simp
    all_goals try decide
    all_goals try assumption
    all_goals try omega
  try simp only [Act.put, gA, gS, gZ, sA, sZ, sS]
  refine tk 1 (.int .u8 t) rfl (.inl ⟨by rfl, ?_⟩) ?_
  · intro w9 hSw
    try dsimp only at hSw
    have c0 : w9.cell? ⟨w.heap.size, 3, none⟩ = some (.int .u8 t) := by rw [cell_of_row _ _ 3 _ _ _ (blk11 hSw XH.out)]; rfl
    go_simp
    all_goals try assumption
  try simp only [Act.put, gA, gS, gZ, sA, sZ, sS]
  refine tk 2 (.agg (enC i s nm t rt d ld cd l ll cl h lh ch tg gr)) rfl (.inl ⟨by rfl, ?_⟩) ?_
  · intro w9 hSw
    try dsimp only at hSw
    exact ex_load11 52 (.tmp 1) rfl _ _ rfl (loadE _ _ i s nm t rt d ld cd l ll cl h lh ch tg gr _ (blk11 hSw XH.out))
  try simp only [Act.put, gA, gS, gZ, sA, sZ, sS]
  refine tk 4 (.pointer (some ⟨w.heap.size, 6, none⟩)) rfl (.inl ⟨by rfl, ?_⟩) ?_
  · intro w9 hSw
    try dsimp only at hSw
    go_simp
    all_goals try decide
    all_goals try assumption
    all_goals try omega
  try simp only [Act.put, gA, gS, gZ, sA, sZ, sS]
  refine tk 5 (.slice l ll cl) rfl (.inl ⟨by rfl, ?_⟩) ?_
  · intro w9 hSw
    try dsimp only at hSw
    have c0 : w9.cell? ⟨w.heap.size, 6, none⟩ = some (.slice l ll cl) := by rw [cell_of_row _ _ 6 _ _ _ (blk11 hSw XH.out)]; rfl
    go_simp
    all_goals try assumption
  try simp only [Act.put, gA, gS, gZ, sA, sZ, sS]
  refine tk 6 (.pointer (some ⟨w.heap.size, 7, none⟩)) rfl (.inl ⟨by rfl, ?_⟩) ?_
  · intro w9 hSw
    try dsimp only at hSw
    go_simp
    all_goals try decide
    all_goals try assumption
    all_goals try omega
  try simp only [Act.put, gA, gS, gZ, sA, sZ, sS]
  refine tk 7 (.slice h lh ch) rfl (.inl ⟨by rfl, ?_⟩) ?_
  · intro w9 hSw
    try dsimp only at hSw
    have c0 : w9.cell? ⟨w.heap.size, 7, none⟩ = some (.slice h lh ch) := by rw [cell_of_row _ _ 7 _ _ _ (blk11 hSw XH.out)]; rfl
    go_simp
    all_goals try assumption
  try simp only [Act.put, gA, gS, gZ, sA, sZ, sS]
  refine wpAnyH_ready (rs := [3]) (by kernel_rfl) (by simp) ?_
  refine AllReadyH.cons rfl (fun K' hK => ?_) AllReadyH.nil
  rw [if_pos (by rfl)]
  simp only [gA, gS, gZ]
  go_wp2_with fail
  refine (HFI.out _ (Below.andThen BH.out hHeld)).mono ?_
  rintro e z3 ⟨fa, fn, fc, rfl, hq3, hb3⟩
  have N3 : Hid (Below wH.heap.size wH z3) := Below.andThen hHeld hb3
  have Q3 : Hid (SlOk z3 fa fn fc (firstL t zd)) := hq3
  clear hq3 hb3
  try go_wp2_with fail
  refine hK.out _ _ (N3.out) (fun hHeld => ?_)
  clear hK K'
  try simp only [Act.put, gA, gS, gZ, sA, sZ, sS]
  refine wpAnyH_ready (rs := [8]) (by kernel_rfl) (by simp) ?_
  refine AllReadyH.cons rfl (fun K' hK => ?_) AllReadyH.nil
  rw [if_pos (by rfl)]
  simp only [gA, gS, gZ]
  go_wp2_with fail
  refine (HCK.out _ (Below.andThen BH.out hHeld) fa fn fc Q3.out).mono ?_
  rintro e z4 ⟨rfl, hb4⟩
  have N4 : Hid (Below wH.heap.size wH z4) := Below.andThen hHeld hb4
  clear hb4
  try go_wp2_with fail
  refine hK.out _ _ (N4.out) (fun hHeld => ?_)
  clear hK K'
  try simp only [Act.put, gA, gS, gZ, sA, sZ, sS]
  refine tk 9 (.bool cz) rfl (.inl ⟨by rfl, ?_⟩) ?_
  · intro w9 hSw
    try dsimp only at hSw
    go_simp
    all_goals try assumption
  try simp only [Act.put, gA, gS, gZ, sA, sZ, sS]
  refine tk 10 (.bool cz) rfl (.inl ⟨by rfl, ?_⟩) ?_
  · intro w9 hSw
    try dsimp only at hSw
    go_simp
    all_goals try decide
    all_goals try assumption
    all_goals try omega
  try simp only [Act.put, gA, gS, gZ, sA, sZ, sS]
  refine wpAnyH_done (by kernel_rfl) ?_ _
  have B9 : Hid (Below w.heap.size w z4) := Below.andThen BH.out hHeld
  go_wp2_with fail
  go_ret
  exact ⟨by rw [M1.out]; rfl, B9.out⟩
#print axioms right8
end Go.Proofs.YtajllkkbgpijiaaGreatDoor
