/-
  The walks of copyOf, has, check.
-/
import Derived.Test.YtajllkkbgpijiaaGreatDoorDb
import Derived.Test.YtajllkkbgpijiaaGreatDoorTk9
namespace Go.Proofs.YtajllkkbgpijiaaGreatDoor
open Go.RowKit

theorem store_sl (t : TypeId) (ht : (Tryz.prog.info? t).map (·.size) = some 1) (w : World) (B j : Nat) (a : Option Addr) (len cap : Nat) (C : Array Value) (T : TypeId) (h : w.heap[B]? = some (.cells C T (0, 0))) (hj : j < C.size) : (storeVar t ⟨B, j, none⟩ (.slice a len cap)).run Tryz.prog w = .ok () (w.setRow B (C.setIfInBounds j (.slice a len cap))) := by
  cases hq : Tryz.prog.info? t with
  | none => simp [hq] at ht
  | some i =>
    have hi : i.size = 1 := by simpa [hq] using ht
    have e1 : (C.toList.take j ++ [Value.slice a len cap] ++ C.toList.drop (j + 1)).toArray = C.setIfInBounds j (.slice a len cap) := by
      apply Array.toList_inj.1
      simp [List.set_eq_take_append_cons_drop, hj]
    rw [← e1]
    have := run_storeCells_at Tryz.prog B j T [.slice a len cap] 0 C w h (by simp; omega) (by simp [Value.oneCell'])
    simpa [storeVar, Value.cells, sizeOf, typeInfo, hq, hi, Result.andThen] using this
theorem sizeSl : (Tryz.prog.info? 24).map (·.size) = some 1 := by kernel_rfl
/-- An entry in new memory. -/
def CopyPost (i s : Int) (nm : ByteArray) (t rt : Int) (ld ll lh : Nat) (tg gr : Int) (zd zl zh : List Int) (w : World) (r : Ending) (w' : World) : Prop :=
  ∃ a1 c1 a2 c2 a3 c3, r = .returned (.agg (enC i s nm t rt a1 ld c1 a2 ll c2 a3 lh c3 tg gr)) ∧ Told w w' a1 ld c1 zd ∧ Told w w' a2 ll c2 zl ∧ Told w w' a3 lh c3 zh ∧ Below w.heap.size w w'

set_option linter.unusedSimpArgs false in
set_option maxHeartbeats 4000000 in
set_option maxRecDepth 100000 in
theorem copyOf_any (i s : Int) (nm : ByteArray) (t rt : Int) (d : Option Addr) (ld cd : Nat) (l : Option Addr) (ll cl : Nat) (h : Option Addr) (lh ch : Nat) (tg gr : Int) (zd zl zh : List Int) (w : World) (rd : SlOk w d ld cd zd) (rl : SlOk w l ll cl zl) (rh : SlOk w h lh ch zh) (h1 : ld ≤ 16777216) (h2 : ll ≤ 16777216) (h3 : lh ≤ 16777216) :
    Calls Tryz.prog 37 #[.agg (enC i s nm t rt d ld cd l ll cl h lh ch tg gr)] w (CopyPost i s nm t rt ld ll lh tg gr zd zl zh w) := by
  have HC1 : Hid (∀ W, Below w.heap.size w W → Calls Tryz.prog 38 #[.slice d ld cd] W fun e w' => (∃ a' cap', e = .returned (.slice a' ld cap') ∧ Told W w' a' ld cap' zd) ∧ Below W.heap.size W w') := fun W hb => clone8_any d ld cd zd W (rd.row.next hb) h1
  have HC2 : Hid (∀ W, Below w.heap.size w W → Calls Tryz.prog 38 #[.slice l ll cl] W fun e w' => (∃ a' cap', e = .returned (.slice a' ll cap') ∧ Told W w' a' ll cap' zl) ∧ Below W.heap.size W w') := fun W hb => clone8_any l ll cl zl W (rl.row.next hb) h2
  have HC3 : Hid (∀ W, Below w.heap.size w W → Calls Tryz.prog 38 #[.slice h lh ch] W fun e w' => (∃ a' cap', e = .returned (.slice a' lh cap') ∧ Told W w' a' lh cap' zh) ∧ Below W.heap.size W w') := fun W hb => clone8_any h lh ch zh W (rh.row.next hb) h3
  clear rd rl rh h1 h2 h3
  go_enter Tryz.func37, Tryz.ntmps37
  go_wp2_with fail
  obtain ⟨w0, HZ⟩ : ∃ w0, Hid ((w.alloc (.cells (enC i s nm t rt d ld cd l ll cl h lh ch tg gr) 52)).alloc (.cells (enC 0 0 ⟨#[]⟩ 0 0 none 0 0 none 0 0 none 0 0 0 0) 52) = w0) := ⟨_, rfl⟩
  have B0 : Hid (Below w.heap.size w w0.drew) := by show Below _ _ _; rw [← HZ.out]; exact Below.drew (by repeat (first | exact Below.refl _ _ | apply Below.drew | apply Below.al))
  have X0 : Hid (w0.drew.heap[w.heap.size]? = some (.cells (enC i s nm t rt d ld cd l ll cl h lh ch tg gr) 52 (0, 0))) := by show _ = _; rw [← HZ.out]; exact ext11 (at11 _ _ _ rfl)
  have R0 : Hid (w0.drew.heap[w.heap.size + 1]? = some (.cells (enC 0 0 ⟨#[]⟩ 0 0 none 0 0 none 0 0 none 0 0 0 0) 52 (0, 0))) := by show _ = _; rw [← HZ.out]; exact at11 _ _ _ (by simp)
  have L0 : Hid (w.heap.size + 1 < w0.drew.heap.size) := lt_of_heap R0.out
  rw [show (w.alloc (.cells (enC i s nm t rt d ld cd l ll cl h lh ch tg gr) 52)).alloc (.cells (enC 0 0 ⟨#[]⟩ 0 0 none 0 0 none 0 0 none 0 0 0 0) 52) = w0 from HZ.out]
  clear HZ
  refine wp_region_held_drew (S := fun x => Below w.heap.size w x ∧ (∃ C : Array Value, C.size = 10 ∧ x.heap[w.heap.size]? = some (.cells C 52 (0, 0))) ∧ x.heap[w.heap.size + 1]? = some (.cells (enC 0 0 ⟨#[]⟩ 0 0 none 0 0 none 0 0 none 0 0 0 0) 52 (0, 0))) (by kernel_rfl) (⟨B0.out, ⟨_, rfl, X0.out⟩, R0.out⟩) (fun hHeld => ?_)
  refine tk 0 (.pointer (some ⟨w.heap.size, 5, none⟩)) rfl (.inl ⟨by rfl, ?_⟩) ?_
  · intro w9 hSw
    try dsimp only at hSw
    go_simp
    all_goals try decide
    all_goals try assumption
    all_goals try omega
  try simp only [Act.put, gA, gS, gZ, sA, sZ, sS]
  refine tk 3 (.pointer (some ⟨w.heap.size, 6, none⟩)) rfl (.inl ⟨by rfl, ?_⟩) ?_
  · intro w9 hSw
    try dsimp only at hSw
    go_simp
    all_goals try decide
    all_goals try assumption
    all_goals try omega
  try simp only [Act.put, gA, gS, gZ, sA, sZ, sS]
  refine tk 6 (.pointer (some ⟨w.heap.size, 7, none⟩)) rfl (.inl ⟨by rfl, ?_⟩) ?_
  · intro w9 hSw
    try dsimp only at hSw
    go_simp
    all_goals try decide
    all_goals try assumption
    all_goals try omega
  try simp only [Act.put, gA, gS, gZ, sA, sZ, sS]
  refine wpAnyH_ready (rs := [1, 4, 7]) (by kernel_rfl) (by simp) ?_
  refine (AllReadyH.cons rfl (fun K' hK => ?y65) (AllReadyH.cons rfl (fun K' hK => ?y66) (AllReadyH.cons rfl (fun K' hK => ?y67) AllReadyH.nil)))
  case' y65 =>
    rw [if_pos (by rfl)]
    simp only [gA, gS, gZ]
    have cc : w0.drew.cell? ⟨w.heap.size, 5, none⟩ = some (.slice d ld cd) := by rw [cell_of_row _ _ 5 _ _ _ X0.out]; rfl
    go_wp2_with fail
    refine hK.out _ _ (hHeld) (fun hHeld => ?_)
    clear hK K'
    try simp only [Act.put, gA, gS, gZ, sA, sZ, sS]
    clear cc
    refine wpAnyH_ready (rs := [2, 4, 7]) (by kernel_rfl) (by simp) ?_
    refine (AllReadyH.cons rfl (fun K' hK => ?y31) (AllReadyH.cons rfl (fun K' hK => ?y32) (AllReadyH.cons rfl (fun K' hK => ?y33) AllReadyH.nil)))
    case' y31 =>
      rw [if_pos (by rfl)]
      simp only [gA, gS, gZ]
      go_wp2_with fail
      refine (HC1.out _ B0.out).mono ?_
      rintro e w1 ⟨⟨a1, c1, rfl, ht⟩, hb⟩
      have T1 : Hid (Told _ w1 a1 _ c1 _) := ht
      have B1 : Hid (Below w.heap.size w w1) := Below.andThen B0.out hb
      have X1 : Hid (w1.heap[w.heap.size]? = some (.cells (enC i s nm t rt d ld cd l ll cl h lh ch tg gr) 52 (0, 0))) := blk11 hb X0.out
      have R1 : Hid (w1.heap[w.heap.size + 1]? = some (.cells (enC 0 0 ⟨#[]⟩ 0 0 none 0 0 none 0 0 none 0 0 0 0) 52 (0, 0))) := blk11 hb R0.out
      have N1 : Hid (Below w0.drew.heap.size w0.drew w1) := hb
      clear ht hb
      try go_wp2_with fail
      refine hK.out _ _ (⟨B1.out, ⟨_, rfl, X1.out⟩, R1.out⟩) (fun hHeld => ?_)
      clear hK K'
      try simp only [Act.put, gA, gS, gZ, sA, sZ, sS]
      refine wpAnyH_ready (rs := [4, 7]) (by kernel_rfl) (by simp) ?_
      refine (AllReadyH.cons rfl (fun K' hK => ?y10) (AllReadyH.cons rfl (fun K' hK => ?y11) AllReadyH.nil))
      case' y10 =>
        rw [if_pos (by rfl)]
        simp only [gA, gS, gZ]
        have cc : w1.cell? ⟨w.heap.size, 6, none⟩ = some (.slice l ll cl) := by rw [cell_of_row _ _ 6 _ _ _ X1.out]; rfl
        go_wp2_with fail
        refine hK.out _ _ (hHeld) (fun hHeld => ?_)
        clear hK K'
        try simp only [Act.put, gA, gS, gZ, sA, sZ, sS]
        clear cc
        refine wpAnyH_ready (rs := [5, 7]) (by kernel_rfl) (by simp) ?_
        refine (AllReadyH.cons rfl (fun K' hK => ?y5) (AllReadyH.cons rfl (fun K' hK => ?y6) AllReadyH.nil))
        case' y5 =>
          rw [if_pos (by rfl)]
          simp only [gA, gS, gZ]
          go_wp2_with fail
          refine (HC2.out _ B1.out).mono ?_
          rintro e w2 ⟨⟨a2, c2, rfl, ht⟩, hb⟩
          have T2 : Hid (Told _ w2 a2 _ c2 _) := ht
          have B2 : Hid (Below w.heap.size w w2) := Below.andThen B1.out hb
          have X2 : Hid (w2.heap[w.heap.size]? = some (.cells (enC i s nm t rt d ld cd l ll cl h lh ch tg gr) 52 (0, 0))) := blk11 hb X1.out
          have R2 : Hid (w2.heap[w.heap.size + 1]? = some (.cells (enC 0 0 ⟨#[]⟩ 0 0 none 0 0 none 0 0 none 0 0 0 0) 52 (0, 0))) := blk11 hb R1.out
          have N2 : Hid (Below w1.heap.size w1 w2) := hb
          clear ht hb
          try go_wp2_with fail
          refine hK.out _ _ (⟨B2.out, ⟨_, rfl, X2.out⟩, R2.out⟩) (fun hHeld => ?_)
          clear hK K'
          try simp only [Act.put, gA, gS, gZ, sA, sZ, sS]
          refine wpAnyH_ready (rs := [7]) (by kernel_rfl) (by simp) ?_
          refine (AllReadyH.cons rfl (fun K' hK => ?y2) AllReadyH.nil)
          case' y2 =>
            rw [if_pos (by rfl)]
            simp only [gA, gS, gZ]
            have cc : w2.cell? ⟨w.heap.size, 7, none⟩ = some (.slice h lh ch) := by rw [cell_of_row _ _ 7 _ _ _ X2.out]; rfl
            go_wp2_with fail
            refine hK.out _ _ (hHeld) (fun hHeld => ?_)
            clear hK K'
            try simp only [Act.put, gA, gS, gZ, sA, sZ, sS]
            clear cc
            refine tk 9 (.pointer (some ⟨w.heap.size, 5, none⟩)) rfl (.inl ⟨by rfl, ?_⟩) ?_
            · intro w9 hSw
              try dsimp only at hSw
              go_simp
              all_goals try decide
              all_goals try assumption
              all_goals try omega
            try simp only [Act.put, gA, gS, gZ, sA, sZ, sS]
            refine wpAnyH_ready (rs := [8]) (by kernel_rfl) (by simp) ?_
            refine (AllReadyH.cons rfl (fun K' hK => ?y1) AllReadyH.nil)
            case' y1 =>
              rw [if_pos (by rfl)]
              simp only [gA, gS, gZ]
              go_wp2_with fail
              refine (HC3.out _ B2.out).mono ?_
              rintro e w3 ⟨⟨a3, c3, rfl, ht⟩, hb⟩
              have T3 : Hid (Told _ w3 a3 _ c3 _) := ht
              have B3 : Hid (Below w.heap.size w w3) := Below.andThen B2.out hb
              have X3 : Hid (w3.heap[w.heap.size]? = some (.cells (enC i s nm t rt d ld cd l ll cl h lh ch tg gr) 52 (0, 0))) := blk11 hb X2.out
              have R3 : Hid (w3.heap[w.heap.size + 1]? = some (.cells (enC 0 0 ⟨#[]⟩ 0 0 none 0 0 none 0 0 none 0 0 0 0) 52 (0, 0))) := blk11 hb R2.out
              have N3 : Hid (Below w2.heap.size w2 w3) := hb
              clear ht hb
              try go_wp2_with fail
              refine hK.out _ _ (⟨B3.out, ⟨_, rfl, X3.out⟩, R3.out⟩) (fun hHeld => ?_)
              clear hK K'
              try simp only [Act.put, gA, gS, gZ, sA, sZ, sS]
        case' y6 =>
          rw [if_pos (by rfl)]
          simp only [gA, gS, gZ]
          have cc : w1.cell? ⟨w.heap.size, 7, none⟩ = some (.slice h lh ch) := by rw [cell_of_row _ _ 7 _ _ _ X1.out]; rfl
          go_wp2_with fail
          refine hK.out _ _ (hHeld) (fun hHeld => ?_)
          clear hK K'
          try simp only [Act.put, gA, gS, gZ, sA, sZ, sS]
          clear cc
          refine tk 9 (.pointer (some ⟨w.heap.size, 5, none⟩)) rfl (.inl ⟨by rfl, ?_⟩) ?_
          · intro w9 hSw
            try dsimp only at hSw
            go_simp
            all_goals try decide
            all_goals try assumption
            all_goals try omega
          try simp only [Act.put, gA, gS, gZ, sA, sZ, sS]
          refine wpAnyH_ready (rs := [5]) (by kernel_rfl) (by simp) ?_
          refine (AllReadyH.cons rfl (fun K' hK => ?y4) AllReadyH.nil)
          case' y4 =>
            rw [if_pos (by rfl)]
            simp only [gA, gS, gZ]
            go_wp2_with fail
            refine (HC2.out _ B1.out).mono ?_
            rintro e w2 ⟨⟨a2, c2, rfl, ht⟩, hb⟩
            have T2 : Hid (Told _ w2 a2 _ c2 _) := ht
            have B2 : Hid (Below w.heap.size w w2) := Below.andThen B1.out hb
            have X2 : Hid (w2.heap[w.heap.size]? = some (.cells (enC i s nm t rt d ld cd l ll cl h lh ch tg gr) 52 (0, 0))) := blk11 hb X1.out
            have R2 : Hid (w2.heap[w.heap.size + 1]? = some (.cells (enC 0 0 ⟨#[]⟩ 0 0 none 0 0 none 0 0 none 0 0 0 0) 52 (0, 0))) := blk11 hb R1.out
            have N2 : Hid (Below w1.heap.size w1 w2) := hb
            clear ht hb
            try go_wp2_with fail
            refine hK.out _ _ (⟨B2.out, ⟨_, rfl, X2.out⟩, R2.out⟩) (fun hHeld => ?_)
            clear hK K'
            try simp only [Act.put, gA, gS, gZ, sA, sZ, sS]
            refine wpAnyH_ready (rs := [8]) (by kernel_rfl) (by simp) ?_
            refine (AllReadyH.cons rfl (fun K' hK => ?y3) AllReadyH.nil)
            case' y3 =>
              rw [if_pos (by rfl)]
              simp only [gA, gS, gZ]
              go_wp2_with fail
              refine (HC3.out _ B2.out).mono ?_
              rintro e w3 ⟨⟨a3, c3, rfl, ht⟩, hb⟩
              have T3 : Hid (Told _ w3 a3 _ c3 _) := ht
              have B3 : Hid (Below w.heap.size w w3) := Below.andThen B2.out hb
              have X3 : Hid (w3.heap[w.heap.size]? = some (.cells (enC i s nm t rt d ld cd l ll cl h lh ch tg gr) 52 (0, 0))) := blk11 hb X2.out
              have R3 : Hid (w3.heap[w.heap.size + 1]? = some (.cells (enC 0 0 ⟨#[]⟩ 0 0 none 0 0 none 0 0 none 0 0 0 0) 52 (0, 0))) := blk11 hb R2.out
              have N3 : Hid (Below w2.heap.size w2 w3) := hb
              clear ht hb
              try go_wp2_with fail
              refine hK.out _ _ (⟨B3.out, ⟨_, rfl, X3.out⟩, R3.out⟩) (fun hHeld => ?_)
              clear hK K'
              try simp only [Act.put, gA, gS, gZ, sA, sZ, sS]
      case' y11 =>
        rw [if_pos (by rfl)]
        simp only [gA, gS, gZ]
        have cc : w1.cell? ⟨w.heap.size, 7, none⟩ = some (.slice h lh ch) := by rw [cell_of_row _ _ 7 _ _ _ X1.out]; rfl
        go_wp2_with fail
        refine hK.out _ _ (hHeld) (fun hHeld => ?_)
        clear hK K'
        try simp only [Act.put, gA, gS, gZ, sA, sZ, sS]
        clear cc
        refine wpAnyH_ready (rs := [4]) (by kernel_rfl) (by simp) ?_
        refine (AllReadyH.cons rfl (fun K' hK => ?y9) AllReadyH.nil)
        case' y9 =>
          rw [if_pos (by rfl)]
          simp only [gA, gS, gZ]
          have cc : w1.cell? ⟨w.heap.size, 6, none⟩ = some (.slice l ll cl) := by rw [cell_of_row _ _ 6 _ _ _ X1.out]; rfl
          go_wp2_with fail
          refine hK.out _ _ (hHeld) (fun hHeld => ?_)
          clear hK K'
          try simp only [Act.put, gA, gS, gZ, sA, sZ, sS]
          clear cc
          refine tk 9 (.pointer (some ⟨w.heap.size, 5, none⟩)) rfl (.inl ⟨by rfl, ?_⟩) ?_
          · intro w9 hSw
            try dsimp only at hSw
            go_simp
            all_goals try decide
            all_goals try assumption
            all_goals try omega
          try simp only [Act.put, gA, gS, gZ, sA, sZ, sS]
          refine wpAnyH_ready (rs := [5]) (by kernel_rfl) (by simp) ?_
          refine (AllReadyH.cons rfl (fun K' hK => ?y8) AllReadyH.nil)
          case' y8 =>
            rw [if_pos (by rfl)]
            simp only [gA, gS, gZ]
            go_wp2_with fail
            refine (HC2.out _ B1.out).mono ?_
            rintro e w2 ⟨⟨a2, c2, rfl, ht⟩, hb⟩
            have T2 : Hid (Told _ w2 a2 _ c2 _) := ht
            have B2 : Hid (Below w.heap.size w w2) := Below.andThen B1.out hb
            have X2 : Hid (w2.heap[w.heap.size]? = some (.cells (enC i s nm t rt d ld cd l ll cl h lh ch tg gr) 52 (0, 0))) := blk11 hb X1.out
            have R2 : Hid (w2.heap[w.heap.size + 1]? = some (.cells (enC 0 0 ⟨#[]⟩ 0 0 none 0 0 none 0 0 none 0 0 0 0) 52 (0, 0))) := blk11 hb R1.out
            have N2 : Hid (Below w1.heap.size w1 w2) := hb
            clear ht hb
            try go_wp2_with fail
            refine hK.out _ _ (⟨B2.out, ⟨_, rfl, X2.out⟩, R2.out⟩) (fun hHeld => ?_)
            clear hK K'
            try simp only [Act.put, gA, gS, gZ, sA, sZ, sS]
            refine wpAnyH_ready (rs := [8]) (by kernel_rfl) (by simp) ?_
            refine (AllReadyH.cons rfl (fun K' hK => ?y7) AllReadyH.nil)
            case' y7 =>
              rw [if_pos (by rfl)]
              simp only [gA, gS, gZ]
              go_wp2_with fail
              refine (HC3.out _ B2.out).mono ?_
              rintro e w3 ⟨⟨a3, c3, rfl, ht⟩, hb⟩
              have T3 : Hid (Told _ w3 a3 _ c3 _) := ht
              have B3 : Hid (Below w.heap.size w w3) := Below.andThen B2.out hb
              have X3 : Hid (w3.heap[w.heap.size]? = some (.cells (enC i s nm t rt d ld cd l ll cl h lh ch tg gr) 52 (0, 0))) := blk11 hb X2.out
              have R3 : Hid (w3.heap[w.heap.size + 1]? = some (.cells (enC 0 0 ⟨#[]⟩ 0 0 none 0 0 none 0 0 none 0 0 0 0) 52 (0, 0))) := blk11 hb R2.out
              have N3 : Hid (Below w2.heap.size w2 w3) := hb
              clear ht hb
              try go_wp2_with fail
              refine hK.out _ _ (⟨B3.out, ⟨_, rfl, X3.out⟩, R3.out⟩) (fun hHeld => ?_)
              clear hK K'
              try simp only [Act.put, gA, gS, gZ, sA, sZ, sS]
    case' y32 =>
      rw [if_pos (by rfl)]
      simp only [gA, gS, gZ]
      have cc : w0.drew.cell? ⟨w.heap.size, 6, none⟩ = some (.slice l ll cl) := by rw [cell_of_row _ _ 6 _ _ _ X0.out]; rfl
      go_wp2_with fail
      refine hK.out _ _ (hHeld) (fun hHeld => ?_)
      clear hK K'
      try simp only [Act.put, gA, gS, gZ, sA, sZ, sS]
      clear cc
      refine wpAnyH_ready (rs := [2, 7]) (by kernel_rfl) (by simp) ?_
      refine (AllReadyH.cons rfl (fun K' hK => ?y21) (AllReadyH.cons rfl (fun K' hK => ?y22) AllReadyH.nil))
      case' y21 =>
        rw [if_pos (by rfl)]
        simp only [gA, gS, gZ]
        go_wp2_with fail
        refine (HC1.out _ B0.out).mono ?_
        rintro e w1 ⟨⟨a1, c1, rfl, ht⟩, hb⟩
        have T1 : Hid (Told _ w1 a1 _ c1 _) := ht
        have B1 : Hid (Below w.heap.size w w1) := Below.andThen B0.out hb
        have X1 : Hid (w1.heap[w.heap.size]? = some (.cells (enC i s nm t rt d ld cd l ll cl h lh ch tg gr) 52 (0, 0))) := blk11 hb X0.out
        have R1 : Hid (w1.heap[w.heap.size + 1]? = some (.cells (enC 0 0 ⟨#[]⟩ 0 0 none 0 0 none 0 0 none 0 0 0 0) 52 (0, 0))) := blk11 hb R0.out
        have N1 : Hid (Below w0.drew.heap.size w0.drew w1) := hb
        clear ht hb
        try go_wp2_with fail
        refine hK.out _ _ (⟨B1.out, ⟨_, rfl, X1.out⟩, R1.out⟩) (fun hHeld => ?_)
        clear hK K'
        try simp only [Act.put, gA, gS, gZ, sA, sZ, sS]
        refine wpAnyH_ready (rs := [5, 7]) (by kernel_rfl) (by simp) ?_
        refine (AllReadyH.cons rfl (fun K' hK => ?y16) (AllReadyH.cons rfl (fun K' hK => ?y17) AllReadyH.nil))
        case' y16 =>
          rw [if_pos (by rfl)]
          simp only [gA, gS, gZ]
          go_wp2_with fail
          refine (HC2.out _ B1.out).mono ?_
          rintro e w2 ⟨⟨a2, c2, rfl, ht⟩, hb⟩
          have T2 : Hid (Told _ w2 a2 _ c2 _) := ht
          have B2 : Hid (Below w.heap.size w w2) := Below.andThen B1.out hb
          have X2 : Hid (w2.heap[w.heap.size]? = some (.cells (enC i s nm t rt d ld cd l ll cl h lh ch tg gr) 52 (0, 0))) := blk11 hb X1.out
          have R2 : Hid (w2.heap[w.heap.size + 1]? = some (.cells (enC 0 0 ⟨#[]⟩ 0 0 none 0 0 none 0 0 none 0 0 0 0) 52 (0, 0))) := blk11 hb R1.out
          have N2 : Hid (Below w1.heap.size w1 w2) := hb
          clear ht hb
          try go_wp2_with fail
          refine hK.out _ _ (⟨B2.out, ⟨_, rfl, X2.out⟩, R2.out⟩) (fun hHeld => ?_)
          clear hK K'
          try simp only [Act.put, gA, gS, gZ, sA, sZ, sS]
          refine wpAnyH_ready (rs := [7]) (by kernel_rfl) (by simp) ?_
          refine (AllReadyH.cons rfl (fun K' hK => ?y13) AllReadyH.nil)
          case' y13 =>
            rw [if_pos (by rfl)]
            simp only [gA, gS, gZ]
            have cc : w2.cell? ⟨w.heap.size, 7, none⟩ = some (.slice h lh ch) := by rw [cell_of_row _ _ 7 _ _ _ X2.out]; rfl
            go_wp2_with fail
            refine hK.out _ _ (hHeld) (fun hHeld => ?_)
            clear hK K'
            try simp only [Act.put, gA, gS, gZ, sA, sZ, sS]
            clear cc
            refine tk 9 (.pointer (some ⟨w.heap.size, 5, none⟩)) rfl (.inl ⟨by rfl, ?_⟩) ?_
            · intro w9 hSw
              try dsimp only at hSw
              go_simp
              all_goals try decide
              all_goals try assumption
              all_goals try omega
            try simp only [Act.put, gA, gS, gZ, sA, sZ, sS]
            refine wpAnyH_ready (rs := [8]) (by kernel_rfl) (by simp) ?_
            refine (AllReadyH.cons rfl (fun K' hK => ?y12) AllReadyH.nil)
            case' y12 =>
              rw [if_pos (by rfl)]
              simp only [gA, gS, gZ]
              go_wp2_with fail
              refine (HC3.out _ B2.out).mono ?_
              rintro e w3 ⟨⟨a3, c3, rfl, ht⟩, hb⟩
              have T3 : Hid (Told _ w3 a3 _ c3 _) := ht
              have B3 : Hid (Below w.heap.size w w3) := Below.andThen B2.out hb
              have X3 : Hid (w3.heap[w.heap.size]? = some (.cells (enC i s nm t rt d ld cd l ll cl h lh ch tg gr) 52 (0, 0))) := blk11 hb X2.out
              have R3 : Hid (w3.heap[w.heap.size + 1]? = some (.cells (enC 0 0 ⟨#[]⟩ 0 0 none 0 0 none 0 0 none 0 0 0 0) 52 (0, 0))) := blk11 hb R2.out
              have N3 : Hid (Below w2.heap.size w2 w3) := hb
              clear ht hb
              try go_wp2_with fail
              refine hK.out _ _ (⟨B3.out, ⟨_, rfl, X3.out⟩, R3.out⟩) (fun hHeld => ?_)
              clear hK K'
              try simp only [Act.put, gA, gS, gZ, sA, sZ, sS]
        case' y17 =>
          rw [if_pos (by rfl)]
          simp only [gA, gS, gZ]
          have cc : w1.cell? ⟨w.heap.size, 7, none⟩ = some (.slice h lh ch) := by rw [cell_of_row _ _ 7 _ _ _ X1.out]; rfl
          go_wp2_with fail
          refine hK.out _ _ (hHeld) (fun hHeld => ?_)
          clear hK K'
          try simp only [Act.put, gA, gS, gZ, sA, sZ, sS]
          clear cc
          refine tk 9 (.pointer (some ⟨w.heap.size, 5, none⟩)) rfl (.inl ⟨by rfl, ?_⟩) ?_
          · intro w9 hSw
            try dsimp only at hSw
            go_simp
            all_goals try decide
            all_goals try assumption
            all_goals try omega
          try simp only [Act.put, gA, gS, gZ, sA, sZ, sS]
          refine wpAnyH_ready (rs := [5]) (by kernel_rfl) (by simp) ?_
          refine (AllReadyH.cons rfl (fun K' hK => ?y15) AllReadyH.nil)
          case' y15 =>
            rw [if_pos (by rfl)]
            simp only [gA, gS, gZ]
            go_wp2_with fail
            refine (HC2.out _ B1.out).mono ?_
            rintro e w2 ⟨⟨a2, c2, rfl, ht⟩, hb⟩
            have T2 : Hid (Told _ w2 a2 _ c2 _) := ht
            have B2 : Hid (Below w.heap.size w w2) := Below.andThen B1.out hb
            have X2 : Hid (w2.heap[w.heap.size]? = some (.cells (enC i s nm t rt d ld cd l ll cl h lh ch tg gr) 52 (0, 0))) := blk11 hb X1.out
            have R2 : Hid (w2.heap[w.heap.size + 1]? = some (.cells (enC 0 0 ⟨#[]⟩ 0 0 none 0 0 none 0 0 none 0 0 0 0) 52 (0, 0))) := blk11 hb R1.out
            have N2 : Hid (Below w1.heap.size w1 w2) := hb
            clear ht hb
            try go_wp2_with fail
            refine hK.out _ _ (⟨B2.out, ⟨_, rfl, X2.out⟩, R2.out⟩) (fun hHeld => ?_)
            clear hK K'
            try simp only [Act.put, gA, gS, gZ, sA, sZ, sS]
            refine wpAnyH_ready (rs := [8]) (by kernel_rfl) (by simp) ?_
            refine (AllReadyH.cons rfl (fun K' hK => ?y14) AllReadyH.nil)
            case' y14 =>
              rw [if_pos (by rfl)]
              simp only [gA, gS, gZ]
              go_wp2_with fail
              refine (HC3.out _ B2.out).mono ?_
              rintro e w3 ⟨⟨a3, c3, rfl, ht⟩, hb⟩
              have T3 : Hid (Told _ w3 a3 _ c3 _) := ht
              have B3 : Hid (Below w.heap.size w w3) := Below.andThen B2.out hb
              have X3 : Hid (w3.heap[w.heap.size]? = some (.cells (enC i s nm t rt d ld cd l ll cl h lh ch tg gr) 52 (0, 0))) := blk11 hb X2.out
              have R3 : Hid (w3.heap[w.heap.size + 1]? = some (.cells (enC 0 0 ⟨#[]⟩ 0 0 none 0 0 none 0 0 none 0 0 0 0) 52 (0, 0))) := blk11 hb R2.out
              have N3 : Hid (Below w2.heap.size w2 w3) := hb
              clear ht hb
              try go_wp2_with fail
              refine hK.out _ _ (⟨B3.out, ⟨_, rfl, X3.out⟩, R3.out⟩) (fun hHeld => ?_)
              clear hK K'
              try simp only [Act.put, gA, gS, gZ, sA, sZ, sS]
      case' y22 =>
        rw [if_pos (by rfl)]
        simp only [gA, gS, gZ]
        have cc : w0.drew.cell? ⟨w.heap.size, 7, none⟩ = some (.slice h lh ch) := by rw [cell_of_row _ _ 7 _ _ _ X0.out]; rfl
        go_wp2_with fail
        refine hK.out _ _ (hHeld) (fun hHeld => ?_)
        clear hK K'
        try simp only [Act.put, gA, gS, gZ, sA, sZ, sS]
        clear cc
        refine wpAnyH_ready (rs := [2]) (by kernel_rfl) (by simp) ?_
        refine (AllReadyH.cons rfl (fun K' hK => ?y20) AllReadyH.nil)
        case' y20 =>
          rw [if_pos (by rfl)]
          simp only [gA, gS, gZ]
          go_wp2_with fail
          refine (HC1.out _ B0.out).mono ?_
          rintro e w1 ⟨⟨a1, c1, rfl, ht⟩, hb⟩
          have T1 : Hid (Told _ w1 a1 _ c1 _) := ht
          have B1 : Hid (Below w.heap.size w w1) := Below.andThen B0.out hb
          have X1 : Hid (w1.heap[w.heap.size]? = some (.cells (enC i s nm t rt d ld cd l ll cl h lh ch tg gr) 52 (0, 0))) := blk11 hb X0.out
          have R1 : Hid (w1.heap[w.heap.size + 1]? = some (.cells (enC 0 0 ⟨#[]⟩ 0 0 none 0 0 none 0 0 none 0 0 0 0) 52 (0, 0))) := blk11 hb R0.out
          have N1 : Hid (Below w0.drew.heap.size w0.drew w1) := hb
          clear ht hb
          try go_wp2_with fail
          refine hK.out _ _ (⟨B1.out, ⟨_, rfl, X1.out⟩, R1.out⟩) (fun hHeld => ?_)
          clear hK K'
          try simp only [Act.put, gA, gS, gZ, sA, sZ, sS]
          refine tk 9 (.pointer (some ⟨w.heap.size, 5, none⟩)) rfl (.inl ⟨by rfl, ?_⟩) ?_
          · intro w9 hSw
            try dsimp only at hSw
            go_simp
            all_goals try decide
            all_goals try assumption
            all_goals try omega
          try simp only [Act.put, gA, gS, gZ, sA, sZ, sS]
          refine wpAnyH_ready (rs := [5]) (by kernel_rfl) (by simp) ?_
          refine (AllReadyH.cons rfl (fun K' hK => ?y19) AllReadyH.nil)
          case' y19 =>
            rw [if_pos (by rfl)]
            simp only [gA, gS, gZ]
            go_wp2_with fail
            refine (HC2.out _ B1.out).mono ?_
            rintro e w2 ⟨⟨a2, c2, rfl, ht⟩, hb⟩
            have T2 : Hid (Told _ w2 a2 _ c2 _) := ht
            have B2 : Hid (Below w.heap.size w w2) := Below.andThen B1.out hb
            have X2 : Hid (w2.heap[w.heap.size]? = some (.cells (enC i s nm t rt d ld cd l ll cl h lh ch tg gr) 52 (0, 0))) := blk11 hb X1.out
            have R2 : Hid (w2.heap[w.heap.size + 1]? = some (.cells (enC 0 0 ⟨#[]⟩ 0 0 none 0 0 none 0 0 none 0 0 0 0) 52 (0, 0))) := blk11 hb R1.out
            have N2 : Hid (Below w1.heap.size w1 w2) := hb
            clear ht hb
            try go_wp2_with fail
            refine hK.out _ _ (⟨B2.out, ⟨_, rfl, X2.out⟩, R2.out⟩) (fun hHeld => ?_)
            clear hK K'
            try simp only [Act.put, gA, gS, gZ, sA, sZ, sS]
            refine wpAnyH_ready (rs := [8]) (by kernel_rfl) (by simp) ?_
            refine (AllReadyH.cons rfl (fun K' hK => ?y18) AllReadyH.nil)
            case' y18 =>
              rw [if_pos (by rfl)]
              simp only [gA, gS, gZ]
              go_wp2_with fail
              refine (HC3.out _ B2.out).mono ?_
              rintro e w3 ⟨⟨a3, c3, rfl, ht⟩, hb⟩
              have T3 : Hid (Told _ w3 a3 _ c3 _) := ht
              have B3 : Hid (Below w.heap.size w w3) := Below.andThen B2.out hb
              have X3 : Hid (w3.heap[w.heap.size]? = some (.cells (enC i s nm t rt d ld cd l ll cl h lh ch tg gr) 52 (0, 0))) := blk11 hb X2.out
              have R3 : Hid (w3.heap[w.heap.size + 1]? = some (.cells (enC 0 0 ⟨#[]⟩ 0 0 none 0 0 none 0 0 none 0 0 0 0) 52 (0, 0))) := blk11 hb R2.out
              have N3 : Hid (Below w2.heap.size w2 w3) := hb
              clear ht hb
              try go_wp2_with fail
              refine hK.out _ _ (⟨B3.out, ⟨_, rfl, X3.out⟩, R3.out⟩) (fun hHeld => ?_)
              clear hK K'
              try simp only [Act.put, gA, gS, gZ, sA, sZ, sS]
    case' y33 =>
      rw [if_pos (by rfl)]
      simp only [gA, gS, gZ]
      have cc : w0.drew.cell? ⟨w.heap.size, 7, none⟩ = some (.slice h lh ch) := by rw [cell_of_row _ _ 7 _ _ _ X0.out]; rfl
      go_wp2_with fail
      refine hK.out _ _ (hHeld) (fun hHeld => ?_)
      clear hK K'
      try simp only [Act.put, gA, gS, gZ, sA, sZ, sS]
      clear cc
      refine wpAnyH_ready (rs := [2, 4]) (by kernel_rfl) (by simp) ?_
      refine (AllReadyH.cons rfl (fun K' hK => ?y29) (AllReadyH.cons rfl (fun K' hK => ?y30) AllReadyH.nil))
      case' y29 =>
        rw [if_pos (by rfl)]
        simp only [gA, gS, gZ]
        go_wp2_with fail
        refine (HC1.out _ B0.out).mono ?_
        rintro e w1 ⟨⟨a1, c1, rfl, ht⟩, hb⟩
        have T1 : Hid (Told _ w1 a1 _ c1 _) := ht
        have B1 : Hid (Below w.heap.size w w1) := Below.andThen B0.out hb
        have X1 : Hid (w1.heap[w.heap.size]? = some (.cells (enC i s nm t rt d ld cd l ll cl h lh ch tg gr) 52 (0, 0))) := blk11 hb X0.out
        have R1 : Hid (w1.heap[w.heap.size + 1]? = some (.cells (enC 0 0 ⟨#[]⟩ 0 0 none 0 0 none 0 0 none 0 0 0 0) 52 (0, 0))) := blk11 hb R0.out
        have N1 : Hid (Below w0.drew.heap.size w0.drew w1) := hb
        clear ht hb
        try go_wp2_with fail
        refine hK.out _ _ (⟨B1.out, ⟨_, rfl, X1.out⟩, R1.out⟩) (fun hHeld => ?_)
        clear hK K'
        try simp only [Act.put, gA, gS, gZ, sA, sZ, sS]
        refine wpAnyH_ready (rs := [4]) (by kernel_rfl) (by simp) ?_
        refine (AllReadyH.cons rfl (fun K' hK => ?y25) AllReadyH.nil)
        case' y25 =>
          rw [if_pos (by rfl)]
          simp only [gA, gS, gZ]
          have cc : w1.cell? ⟨w.heap.size, 6, none⟩ = some (.slice l ll cl) := by rw [cell_of_row _ _ 6 _ _ _ X1.out]; rfl
          go_wp2_with fail
          refine hK.out _ _ (hHeld) (fun hHeld => ?_)
          clear hK K'
          try simp only [Act.put, gA, gS, gZ, sA, sZ, sS]
          clear cc
          refine tk 9 (.pointer (some ⟨w.heap.size, 5, none⟩)) rfl (.inl ⟨by rfl, ?_⟩) ?_
          · intro w9 hSw
            try dsimp only at hSw
            go_simp
            all_goals try decide
            all_goals try assumption
            all_goals try omega
          try simp only [Act.put, gA, gS, gZ, sA, sZ, sS]
          refine wpAnyH_ready (rs := [5]) (by kernel_rfl) (by simp) ?_
          refine (AllReadyH.cons rfl (fun K' hK => ?y24) AllReadyH.nil)
          case' y24 =>
            rw [if_pos (by rfl)]
            simp only [gA, gS, gZ]
            go_wp2_with fail
            refine (HC2.out _ B1.out).mono ?_
            rintro e w2 ⟨⟨a2, c2, rfl, ht⟩, hb⟩
            have T2 : Hid (Told _ w2 a2 _ c2 _) := ht
            have B2 : Hid (Below w.heap.size w w2) := Below.andThen B1.out hb
            have X2 : Hid (w2.heap[w.heap.size]? = some (.cells (enC i s nm t rt d ld cd l ll cl h lh ch tg gr) 52 (0, 0))) := blk11 hb X1.out
            have R2 : Hid (w2.heap[w.heap.size + 1]? = some (.cells (enC 0 0 ⟨#[]⟩ 0 0 none 0 0 none 0 0 none 0 0 0 0) 52 (0, 0))) := blk11 hb R1.out
            have N2 : Hid (Below w1.heap.size w1 w2) := hb
            clear ht hb
            try go_wp2_with fail
            refine hK.out _ _ (⟨B2.out, ⟨_, rfl, X2.out⟩, R2.out⟩) (fun hHeld => ?_)
            clear hK K'
            try simp only [Act.put, gA, gS, gZ, sA, sZ, sS]
            refine wpAnyH_ready (rs := [8]) (by kernel_rfl) (by simp) ?_
            refine (AllReadyH.cons rfl (fun K' hK => ?y23) AllReadyH.nil)
            case' y23 =>
              rw [if_pos (by rfl)]
              simp only [gA, gS, gZ]
              go_wp2_with fail
              refine (HC3.out _ B2.out).mono ?_
              rintro e w3 ⟨⟨a3, c3, rfl, ht⟩, hb⟩
              have T3 : Hid (Told _ w3 a3 _ c3 _) := ht
              have B3 : Hid (Below w.heap.size w w3) := Below.andThen B2.out hb
              have X3 : Hid (w3.heap[w.heap.size]? = some (.cells (enC i s nm t rt d ld cd l ll cl h lh ch tg gr) 52 (0, 0))) := blk11 hb X2.out
              have R3 : Hid (w3.heap[w.heap.size + 1]? = some (.cells (enC 0 0 ⟨#[]⟩ 0 0 none 0 0 none 0 0 none 0 0 0 0) 52 (0, 0))) := blk11 hb R2.out
              have N3 : Hid (Below w2.heap.size w2 w3) := hb
              clear ht hb
              try go_wp2_with fail
              refine hK.out _ _ (⟨B3.out, ⟨_, rfl, X3.out⟩, R3.out⟩) (fun hHeld => ?_)
              clear hK K'
              try simp only [Act.put, gA, gS, gZ, sA, sZ, sS]
      case' y30 =>
        rw [if_pos (by rfl)]
        simp only [gA, gS, gZ]
        have cc : w0.drew.cell? ⟨w.heap.size, 6, none⟩ = some (.slice l ll cl) := by rw [cell_of_row _ _ 6 _ _ _ X0.out]; rfl
        go_wp2_with fail
        refine hK.out _ _ (hHeld) (fun hHeld => ?_)
        clear hK K'
        try simp only [Act.put, gA, gS, gZ, sA, sZ, sS]
        clear cc
        refine wpAnyH_ready (rs := [2]) (by kernel_rfl) (by simp) ?_
        refine (AllReadyH.cons rfl (fun K' hK => ?y28) AllReadyH.nil)
        case' y28 =>
          rw [if_pos (by rfl)]
          simp only [gA, gS, gZ]
          go_wp2_with fail
          refine (HC1.out _ B0.out).mono ?_
          rintro e w1 ⟨⟨a1, c1, rfl, ht⟩, hb⟩
          have T1 : Hid (Told _ w1 a1 _ c1 _) := ht
          have B1 : Hid (Below w.heap.size w w1) := Below.andThen B0.out hb
          have X1 : Hid (w1.heap[w.heap.size]? = some (.cells (enC i s nm t rt d ld cd l ll cl h lh ch tg gr) 52 (0, 0))) := blk11 hb X0.out
          have R1 : Hid (w1.heap[w.heap.size + 1]? = some (.cells (enC 0 0 ⟨#[]⟩ 0 0 none 0 0 none 0 0 none 0 0 0 0) 52 (0, 0))) := blk11 hb R0.out
          have N1 : Hid (Below w0.drew.heap.size w0.drew w1) := hb
          clear ht hb
          try go_wp2_with fail
          refine hK.out _ _ (⟨B1.out, ⟨_, rfl, X1.out⟩, R1.out⟩) (fun hHeld => ?_)
          clear hK K'
          try simp only [Act.put, gA, gS, gZ, sA, sZ, sS]
          refine tk 9 (.pointer (some ⟨w.heap.size, 5, none⟩)) rfl (.inl ⟨by rfl, ?_⟩) ?_
          · intro w9 hSw
            try dsimp only at hSw
            go_simp
            all_goals try decide
            all_goals try assumption
            all_goals try omega
          try simp only [Act.put, gA, gS, gZ, sA, sZ, sS]
          refine wpAnyH_ready (rs := [5]) (by kernel_rfl) (by simp) ?_
          refine (AllReadyH.cons rfl (fun K' hK => ?y27) AllReadyH.nil)
          case' y27 =>
            rw [if_pos (by rfl)]
            simp only [gA, gS, gZ]
            go_wp2_with fail
            refine (HC2.out _ B1.out).mono ?_
            rintro e w2 ⟨⟨a2, c2, rfl, ht⟩, hb⟩
            have T2 : Hid (Told _ w2 a2 _ c2 _) := ht
            have B2 : Hid (Below w.heap.size w w2) := Below.andThen B1.out hb
            have X2 : Hid (w2.heap[w.heap.size]? = some (.cells (enC i s nm t rt d ld cd l ll cl h lh ch tg gr) 52 (0, 0))) := blk11 hb X1.out
            have R2 : Hid (w2.heap[w.heap.size + 1]? = some (.cells (enC 0 0 ⟨#[]⟩ 0 0 none 0 0 none 0 0 none 0 0 0 0) 52 (0, 0))) := blk11 hb R1.out
            have N2 : Hid (Below w1.heap.size w1 w2) := hb
            clear ht hb
            try go_wp2_with fail
            refine hK.out _ _ (⟨B2.out, ⟨_, rfl, X2.out⟩, R2.out⟩) (fun hHeld => ?_)
            clear hK K'
            try simp only [Act.put, gA, gS, gZ, sA, sZ, sS]
            refine wpAnyH_ready (rs := [8]) (by kernel_rfl) (by simp) ?_
            refine (AllReadyH.cons rfl (fun K' hK => ?y26) AllReadyH.nil)
            case' y26 =>
              rw [if_pos (by rfl)]
              simp only [gA, gS, gZ]
              go_wp2_with fail
              refine (HC3.out _ B2.out).mono ?_
              rintro e w3 ⟨⟨a3, c3, rfl, ht⟩, hb⟩
              have T3 : Hid (Told _ w3 a3 _ c3 _) := ht
              have B3 : Hid (Below w.heap.size w w3) := Below.andThen B2.out hb
              have X3 : Hid (w3.heap[w.heap.size]? = some (.cells (enC i s nm t rt d ld cd l ll cl h lh ch tg gr) 52 (0, 0))) := blk11 hb X2.out
              have R3 : Hid (w3.heap[w.heap.size + 1]? = some (.cells (enC 0 0 ⟨#[]⟩ 0 0 none 0 0 none 0 0 none 0 0 0 0) 52 (0, 0))) := blk11 hb R2.out
              have N3 : Hid (Below w2.heap.size w2 w3) := hb
              clear ht hb
              try go_wp2_with fail
              refine hK.out _ _ (⟨B3.out, ⟨_, rfl, X3.out⟩, R3.out⟩) (fun hHeld => ?_)
              clear hK K'
              try simp only [Act.put, gA, gS, gZ, sA, sZ, sS]
  case' y66 =>
    rw [if_pos (by rfl)]
    simp only [gA, gS, gZ]
    have cc : w0.drew.cell? ⟨w.heap.size, 6, none⟩ = some (.slice l ll cl) := by rw [cell_of_row _ _ 6 _ _ _ X0.out]; rfl
    go_wp2_with fail
    refine hK.out _ _ (hHeld) (fun hHeld => ?_)
    clear hK K'
    try simp only [Act.put, gA, gS, gZ, sA, sZ, sS]
    clear cc
    refine wpAnyH_ready (rs := [1, 7]) (by kernel_rfl) (by simp) ?_
    refine (AllReadyH.cons rfl (fun K' hK => ?y49) (AllReadyH.cons rfl (fun K' hK => ?y50) AllReadyH.nil))
    case' y49 =>
      rw [if_pos (by rfl)]
      simp only [gA, gS, gZ]
      have cc : w0.drew.cell? ⟨w.heap.size, 5, none⟩ = some (.slice d ld cd) := by rw [cell_of_row _ _ 5 _ _ _ X0.out]; rfl
      go_wp2_with fail
      refine hK.out _ _ (hHeld) (fun hHeld => ?_)
      clear hK K'
      try simp only [Act.put, gA, gS, gZ, sA, sZ, sS]
      clear cc
      refine wpAnyH_ready (rs := [2, 7]) (by kernel_rfl) (by simp) ?_
      refine (AllReadyH.cons rfl (fun K' hK => ?y43) (AllReadyH.cons rfl (fun K' hK => ?y44) AllReadyH.nil))
      case' y43 =>
        rw [if_pos (by rfl)]
        simp only [gA, gS, gZ]
        go_wp2_with fail
        refine (HC1.out _ B0.out).mono ?_
        rintro e w1 ⟨⟨a1, c1, rfl, ht⟩, hb⟩
        have T1 : Hid (Told _ w1 a1 _ c1 _) := ht
        have B1 : Hid (Below w.heap.size w w1) := Below.andThen B0.out hb
        have X1 : Hid (w1.heap[w.heap.size]? = some (.cells (enC i s nm t rt d ld cd l ll cl h lh ch tg gr) 52 (0, 0))) := blk11 hb X0.out
        have R1 : Hid (w1.heap[w.heap.size + 1]? = some (.cells (enC 0 0 ⟨#[]⟩ 0 0 none 0 0 none 0 0 none 0 0 0 0) 52 (0, 0))) := blk11 hb R0.out
        have N1 : Hid (Below w0.drew.heap.size w0.drew w1) := hb
        clear ht hb
        try go_wp2_with fail
        refine hK.out _ _ (⟨B1.out, ⟨_, rfl, X1.out⟩, R1.out⟩) (fun hHeld => ?_)
        clear hK K'
        try simp only [Act.put, gA, gS, gZ, sA, sZ, sS]
        refine wpAnyH_ready (rs := [5, 7]) (by kernel_rfl) (by simp) ?_
        refine (AllReadyH.cons rfl (fun K' hK => ?y38) (AllReadyH.cons rfl (fun K' hK => ?y39) AllReadyH.nil))
        case' y38 =>
          rw [if_pos (by rfl)]
          simp only [gA, gS, gZ]
          go_wp2_with fail
          refine (HC2.out _ B1.out).mono ?_
          rintro e w2 ⟨⟨a2, c2, rfl, ht⟩, hb⟩
          have T2 : Hid (Told _ w2 a2 _ c2 _) := ht
          have B2 : Hid (Below w.heap.size w w2) := Below.andThen B1.out hb
          have X2 : Hid (w2.heap[w.heap.size]? = some (.cells (enC i s nm t rt d ld cd l ll cl h lh ch tg gr) 52 (0, 0))) := blk11 hb X1.out
          have R2 : Hid (w2.heap[w.heap.size + 1]? = some (.cells (enC 0 0 ⟨#[]⟩ 0 0 none 0 0 none 0 0 none 0 0 0 0) 52 (0, 0))) := blk11 hb R1.out
          have N2 : Hid (Below w1.heap.size w1 w2) := hb
          clear ht hb
          try go_wp2_with fail
          refine hK.out _ _ (⟨B2.out, ⟨_, rfl, X2.out⟩, R2.out⟩) (fun hHeld => ?_)
          clear hK K'
          try simp only [Act.put, gA, gS, gZ, sA, sZ, sS]
          refine wpAnyH_ready (rs := [7]) (by kernel_rfl) (by simp) ?_
          refine (AllReadyH.cons rfl (fun K' hK => ?y35) AllReadyH.nil)
          case' y35 =>
            rw [if_pos (by rfl)]
            simp only [gA, gS, gZ]
            have cc : w2.cell? ⟨w.heap.size, 7, none⟩ = some (.slice h lh ch) := by rw [cell_of_row _ _ 7 _ _ _ X2.out]; rfl
            go_wp2_with fail
            refine hK.out _ _ (hHeld) (fun hHeld => ?_)
            clear hK K'
            try simp only [Act.put, gA, gS, gZ, sA, sZ, sS]
            clear cc
            refine tk 9 (.pointer (some ⟨w.heap.size, 5, none⟩)) rfl (.inl ⟨by rfl, ?_⟩) ?_
            · intro w9 hSw
              try dsimp only at hSw
              go_simp
              all_goals try decide
              all_goals try assumption
              all_goals try omega
            try simp only [Act.put, gA, gS, gZ, sA, sZ, sS]
            refine wpAnyH_ready (rs := [8]) (by kernel_rfl) (by simp) ?_
            refine (AllReadyH.cons rfl (fun K' hK => ?y34) AllReadyH.nil)
            case' y34 =>
              rw [if_pos (by rfl)]
              simp only [gA, gS, gZ]
              go_wp2_with fail
              refine (HC3.out _ B2.out).mono ?_
              rintro e w3 ⟨⟨a3, c3, rfl, ht⟩, hb⟩
              have T3 : Hid (Told _ w3 a3 _ c3 _) := ht
              have B3 : Hid (Below w.heap.size w w3) := Below.andThen B2.out hb
              have X3 : Hid (w3.heap[w.heap.size]? = some (.cells (enC i s nm t rt d ld cd l ll cl h lh ch tg gr) 52 (0, 0))) := blk11 hb X2.out
              have R3 : Hid (w3.heap[w.heap.size + 1]? = some (.cells (enC 0 0 ⟨#[]⟩ 0 0 none 0 0 none 0 0 none 0 0 0 0) 52 (0, 0))) := blk11 hb R2.out
              have N3 : Hid (Below w2.heap.size w2 w3) := hb
              clear ht hb
              try go_wp2_with fail
              refine hK.out _ _ (⟨B3.out, ⟨_, rfl, X3.out⟩, R3.out⟩) (fun hHeld => ?_)
              clear hK K'
              try simp only [Act.put, gA, gS, gZ, sA, sZ, sS]
        case' y39 =>
          rw [if_pos (by rfl)]
          simp only [gA, gS, gZ]
          have cc : w1.cell? ⟨w.heap.size, 7, none⟩ = some (.slice h lh ch) := by rw [cell_of_row _ _ 7 _ _ _ X1.out]; rfl
          go_wp2_with fail
          refine hK.out _ _ (hHeld) (fun hHeld => ?_)
          clear hK K'
          try simp only [Act.put, gA, gS, gZ, sA, sZ, sS]
          clear cc
          refine tk 9 (.pointer (some ⟨w.heap.size, 5, none⟩)) rfl (.inl ⟨by rfl, ?_⟩) ?_
          · intro w9 hSw
            try dsimp only at hSw
            go_simp
            all_goals try decide
            all_goals try assumption
            all_goals try omega
          try simp only [Act.put, gA, gS, gZ, sA, sZ, sS]
          refine wpAnyH_ready (rs := [5]) (by kernel_rfl) (by simp) ?_
          refine (AllReadyH.cons rfl (fun K' hK => ?y37) AllReadyH.nil)
          case' y37 =>
            rw [if_pos (by rfl)]
            simp only [gA, gS, gZ]
            go_wp2_with fail
            refine (HC2.out _ B1.out).mono ?_
            rintro e w2 ⟨⟨a2, c2, rfl, ht⟩, hb⟩
            have T2 : Hid (Told _ w2 a2 _ c2 _) := ht
            have B2 : Hid (Below w.heap.size w w2) := Below.andThen B1.out hb
            have X2 : Hid (w2.heap[w.heap.size]? = some (.cells (enC i s nm t rt d ld cd l ll cl h lh ch tg gr) 52 (0, 0))) := blk11 hb X1.out
            have R2 : Hid (w2.heap[w.heap.size + 1]? = some (.cells (enC 0 0 ⟨#[]⟩ 0 0 none 0 0 none 0 0 none 0 0 0 0) 52 (0, 0))) := blk11 hb R1.out
            have N2 : Hid (Below w1.heap.size w1 w2) := hb
            clear ht hb
            try go_wp2_with fail
            refine hK.out _ _ (⟨B2.out, ⟨_, rfl, X2.out⟩, R2.out⟩) (fun hHeld => ?_)
            clear hK K'
            try simp only [Act.put, gA, gS, gZ, sA, sZ, sS]
            refine wpAnyH_ready (rs := [8]) (by kernel_rfl) (by simp) ?_
            refine (AllReadyH.cons rfl (fun K' hK => ?y36) AllReadyH.nil)
            case' y36 =>
              rw [if_pos (by rfl)]
              simp only [gA, gS, gZ]
              go_wp2_with fail
              refine (HC3.out _ B2.out).mono ?_
              rintro e w3 ⟨⟨a3, c3, rfl, ht⟩, hb⟩
              have T3 : Hid (Told _ w3 a3 _ c3 _) := ht
              have B3 : Hid (Below w.heap.size w w3) := Below.andThen B2.out hb
              have X3 : Hid (w3.heap[w.heap.size]? = some (.cells (enC i s nm t rt d ld cd l ll cl h lh ch tg gr) 52 (0, 0))) := blk11 hb X2.out
              have R3 : Hid (w3.heap[w.heap.size + 1]? = some (.cells (enC 0 0 ⟨#[]⟩ 0 0 none 0 0 none 0 0 none 0 0 0 0) 52 (0, 0))) := blk11 hb R2.out
              have N3 : Hid (Below w2.heap.size w2 w3) := hb
              clear ht hb
              try go_wp2_with fail
              refine hK.out _ _ (⟨B3.out, ⟨_, rfl, X3.out⟩, R3.out⟩) (fun hHeld => ?_)
              clear hK K'
              try simp only [Act.put, gA, gS, gZ, sA, sZ, sS]
      case' y44 =>
        rw [if_pos (by rfl)]
        simp only [gA, gS, gZ]
        have cc : w0.drew.cell? ⟨w.heap.size, 7, none⟩ = some (.slice h lh ch) := by rw [cell_of_row _ _ 7 _ _ _ X0.out]; rfl
        go_wp2_with fail
        refine hK.out _ _ (hHeld) (fun hHeld => ?_)
        clear hK K'
        try simp only [Act.put, gA, gS, gZ, sA, sZ, sS]
        clear cc
        refine wpAnyH_ready (rs := [2]) (by kernel_rfl) (by simp) ?_
        refine (AllReadyH.cons rfl (fun K' hK => ?y42) AllReadyH.nil)
        case' y42 =>
          rw [if_pos (by rfl)]
          simp only [gA, gS, gZ]
          go_wp2_with fail
          refine (HC1.out _ B0.out).mono ?_
          rintro e w1 ⟨⟨a1, c1, rfl, ht⟩, hb⟩
          have T1 : Hid (Told _ w1 a1 _ c1 _) := ht
          have B1 : Hid (Below w.heap.size w w1) := Below.andThen B0.out hb
          have X1 : Hid (w1.heap[w.heap.size]? = some (.cells (enC i s nm t rt d ld cd l ll cl h lh ch tg gr) 52 (0, 0))) := blk11 hb X0.out
          have R1 : Hid (w1.heap[w.heap.size + 1]? = some (.cells (enC 0 0 ⟨#[]⟩ 0 0 none 0 0 none 0 0 none 0 0 0 0) 52 (0, 0))) := blk11 hb R0.out
          have N1 : Hid (Below w0.drew.heap.size w0.drew w1) := hb
          clear ht hb
          try go_wp2_with fail
          refine hK.out _ _ (⟨B1.out, ⟨_, rfl, X1.out⟩, R1.out⟩) (fun hHeld => ?_)
          clear hK K'
          try simp only [Act.put, gA, gS, gZ, sA, sZ, sS]
          refine tk 9 (.pointer (some ⟨w.heap.size, 5, none⟩)) rfl (.inl ⟨by rfl, ?_⟩) ?_
          · intro w9 hSw
            try dsimp only at hSw
            go_simp
            all_goals try decide
            all_goals try assumption
            all_goals try omega
          try simp only [Act.put, gA, gS, gZ, sA, sZ, sS]
          refine wpAnyH_ready (rs := [5]) (by kernel_rfl) (by simp) ?_
          refine (AllReadyH.cons rfl (fun K' hK => ?y41) AllReadyH.nil)
          case' y41 =>
            rw [if_pos (by rfl)]
            simp only [gA, gS, gZ]
            go_wp2_with fail
            refine (HC2.out _ B1.out).mono ?_
            rintro e w2 ⟨⟨a2, c2, rfl, ht⟩, hb⟩
            have T2 : Hid (Told _ w2 a2 _ c2 _) := ht
            have B2 : Hid (Below w.heap.size w w2) := Below.andThen B1.out hb
            have X2 : Hid (w2.heap[w.heap.size]? = some (.cells (enC i s nm t rt d ld cd l ll cl h lh ch tg gr) 52 (0, 0))) := blk11 hb X1.out
            have R2 : Hid (w2.heap[w.heap.size + 1]? = some (.cells (enC 0 0 ⟨#[]⟩ 0 0 none 0 0 none 0 0 none 0 0 0 0) 52 (0, 0))) := blk11 hb R1.out
            have N2 : Hid (Below w1.heap.size w1 w2) := hb
            clear ht hb
            try go_wp2_with fail
            refine hK.out _ _ (⟨B2.out, ⟨_, rfl, X2.out⟩, R2.out⟩) (fun hHeld => ?_)
            clear hK K'
            try simp only [Act.put, gA, gS, gZ, sA, sZ, sS]
            refine wpAnyH_ready (rs := [8]) (by kernel_rfl) (by simp) ?_
            refine (AllReadyH.cons rfl (fun K' hK => ?y40) AllReadyH.nil)
            case' y40 =>
              rw [if_pos (by rfl)]
              simp only [gA, gS, gZ]
              go_wp2_with fail
              refine (HC3.out _ B2.out).mono ?_
              rintro e w3 ⟨⟨a3, c3, rfl, ht⟩, hb⟩
              have T3 : Hid (Told _ w3 a3 _ c3 _) := ht
              have B3 : Hid (Below w.heap.size w w3) := Below.andThen B2.out hb
              have X3 : Hid (w3.heap[w.heap.size]? = some (.cells (enC i s nm t rt d ld cd l ll cl h lh ch tg gr) 52 (0, 0))) := blk11 hb X2.out
              have R3 : Hid (w3.heap[w.heap.size + 1]? = some (.cells (enC 0 0 ⟨#[]⟩ 0 0 none 0 0 none 0 0 none 0 0 0 0) 52 (0, 0))) := blk11 hb R2.out
              have N3 : Hid (Below w2.heap.size w2 w3) := hb
              clear ht hb
              try go_wp2_with fail
              refine hK.out _ _ (⟨B3.out, ⟨_, rfl, X3.out⟩, R3.out⟩) (fun hHeld => ?_)
              clear hK K'
              try simp only [Act.put, gA, gS, gZ, sA, sZ, sS]
    case' y50 =>
      rw [if_pos (by rfl)]
      simp only [gA, gS, gZ]
      have cc : w0.drew.cell? ⟨w.heap.size, 7, none⟩ = some (.slice h lh ch) := by rw [cell_of_row _ _ 7 _ _ _ X0.out]; rfl
      go_wp2_with fail
      refine hK.out _ _ (hHeld) (fun hHeld => ?_)
      clear hK K'
      try simp only [Act.put, gA, gS, gZ, sA, sZ, sS]
      clear cc
      refine wpAnyH_ready (rs := [1]) (by kernel_rfl) (by simp) ?_
      refine (AllReadyH.cons rfl (fun K' hK => ?y48) AllReadyH.nil)
      case' y48 =>
        rw [if_pos (by rfl)]
        simp only [gA, gS, gZ]
        have cc : w0.drew.cell? ⟨w.heap.size, 5, none⟩ = some (.slice d ld cd) := by rw [cell_of_row _ _ 5 _ _ _ X0.out]; rfl
        go_wp2_with fail
        refine hK.out _ _ (hHeld) (fun hHeld => ?_)
        clear hK K'
        try simp only [Act.put, gA, gS, gZ, sA, sZ, sS]
        clear cc
        refine wpAnyH_ready (rs := [2]) (by kernel_rfl) (by simp) ?_
        refine (AllReadyH.cons rfl (fun K' hK => ?y47) AllReadyH.nil)
        case' y47 =>
          rw [if_pos (by rfl)]
          simp only [gA, gS, gZ]
          go_wp2_with fail
          refine (HC1.out _ B0.out).mono ?_
          rintro e w1 ⟨⟨a1, c1, rfl, ht⟩, hb⟩
          have T1 : Hid (Told _ w1 a1 _ c1 _) := ht
          have B1 : Hid (Below w.heap.size w w1) := Below.andThen B0.out hb
          have X1 : Hid (w1.heap[w.heap.size]? = some (.cells (enC i s nm t rt d ld cd l ll cl h lh ch tg gr) 52 (0, 0))) := blk11 hb X0.out
          have R1 : Hid (w1.heap[w.heap.size + 1]? = some (.cells (enC 0 0 ⟨#[]⟩ 0 0 none 0 0 none 0 0 none 0 0 0 0) 52 (0, 0))) := blk11 hb R0.out
          have N1 : Hid (Below w0.drew.heap.size w0.drew w1) := hb
          clear ht hb
          try go_wp2_with fail
          refine hK.out _ _ (⟨B1.out, ⟨_, rfl, X1.out⟩, R1.out⟩) (fun hHeld => ?_)
          clear hK K'
          try simp only [Act.put, gA, gS, gZ, sA, sZ, sS]
          refine tk 9 (.pointer (some ⟨w.heap.size, 5, none⟩)) rfl (.inl ⟨by rfl, ?_⟩) ?_
          · intro w9 hSw
            try dsimp only at hSw
            go_simp
            all_goals try decide
            all_goals try assumption
            all_goals try omega
          try simp only [Act.put, gA, gS, gZ, sA, sZ, sS]
          refine wpAnyH_ready (rs := [5]) (by kernel_rfl) (by simp) ?_
          refine (AllReadyH.cons rfl (fun K' hK => ?y46) AllReadyH.nil)
          case' y46 =>
            rw [if_pos (by rfl)]
            simp only [gA, gS, gZ]
            go_wp2_with fail
            refine (HC2.out _ B1.out).mono ?_
            rintro e w2 ⟨⟨a2, c2, rfl, ht⟩, hb⟩
            have T2 : Hid (Told _ w2 a2 _ c2 _) := ht
            have B2 : Hid (Below w.heap.size w w2) := Below.andThen B1.out hb
            have X2 : Hid (w2.heap[w.heap.size]? = some (.cells (enC i s nm t rt d ld cd l ll cl h lh ch tg gr) 52 (0, 0))) := blk11 hb X1.out
            have R2 : Hid (w2.heap[w.heap.size + 1]? = some (.cells (enC 0 0 ⟨#[]⟩ 0 0 none 0 0 none 0 0 none 0 0 0 0) 52 (0, 0))) := blk11 hb R1.out
            have N2 : Hid (Below w1.heap.size w1 w2) := hb
            clear ht hb
            try go_wp2_with fail
            refine hK.out _ _ (⟨B2.out, ⟨_, rfl, X2.out⟩, R2.out⟩) (fun hHeld => ?_)
            clear hK K'
            try simp only [Act.put, gA, gS, gZ, sA, sZ, sS]
            refine wpAnyH_ready (rs := [8]) (by kernel_rfl) (by simp) ?_
            refine (AllReadyH.cons rfl (fun K' hK => ?y45) AllReadyH.nil)
            case' y45 =>
              rw [if_pos (by rfl)]
              simp only [gA, gS, gZ]
              go_wp2_with fail
              refine (HC3.out _ B2.out).mono ?_
              rintro e w3 ⟨⟨a3, c3, rfl, ht⟩, hb⟩
              have T3 : Hid (Told _ w3 a3 _ c3 _) := ht
              have B3 : Hid (Below w.heap.size w w3) := Below.andThen B2.out hb
              have X3 : Hid (w3.heap[w.heap.size]? = some (.cells (enC i s nm t rt d ld cd l ll cl h lh ch tg gr) 52 (0, 0))) := blk11 hb X2.out
              have R3 : Hid (w3.heap[w.heap.size + 1]? = some (.cells (enC 0 0 ⟨#[]⟩ 0 0 none 0 0 none 0 0 none 0 0 0 0) 52 (0, 0))) := blk11 hb R2.out
              have N3 : Hid (Below w2.heap.size w2 w3) := hb
              clear ht hb
              try go_wp2_with fail
              refine hK.out _ _ (⟨B3.out, ⟨_, rfl, X3.out⟩, R3.out⟩) (fun hHeld => ?_)
              clear hK K'
              try simp only [Act.put, gA, gS, gZ, sA, sZ, sS]
  case' y67 =>
    rw [if_pos (by rfl)]
    simp only [gA, gS, gZ]
    have cc : w0.drew.cell? ⟨w.heap.size, 7, none⟩ = some (.slice h lh ch) := by rw [cell_of_row _ _ 7 _ _ _ X0.out]; rfl
    go_wp2_with fail
    refine hK.out _ _ (hHeld) (fun hHeld => ?_)
    clear hK K'
    try simp only [Act.put, gA, gS, gZ, sA, sZ, sS]
    clear cc
    refine wpAnyH_ready (rs := [1, 4]) (by kernel_rfl) (by simp) ?_
    refine (AllReadyH.cons rfl (fun K' hK => ?y63) (AllReadyH.cons rfl (fun K' hK => ?y64) AllReadyH.nil))
    case' y63 =>
      rw [if_pos (by rfl)]
      simp only [gA, gS, gZ]
      have cc : w0.drew.cell? ⟨w.heap.size, 5, none⟩ = some (.slice d ld cd) := by rw [cell_of_row _ _ 5 _ _ _ X0.out]; rfl
      go_wp2_with fail
      refine hK.out _ _ (hHeld) (fun hHeld => ?_)
      clear hK K'
      try simp only [Act.put, gA, gS, gZ, sA, sZ, sS]
      clear cc
      refine wpAnyH_ready (rs := [2, 4]) (by kernel_rfl) (by simp) ?_
      refine (AllReadyH.cons rfl (fun K' hK => ?y57) (AllReadyH.cons rfl (fun K' hK => ?y58) AllReadyH.nil))
      case' y57 =>
        rw [if_pos (by rfl)]
        simp only [gA, gS, gZ]
        go_wp2_with fail
        refine (HC1.out _ B0.out).mono ?_
        rintro e w1 ⟨⟨a1, c1, rfl, ht⟩, hb⟩
        have T1 : Hid (Told _ w1 a1 _ c1 _) := ht
        have B1 : Hid (Below w.heap.size w w1) := Below.andThen B0.out hb
        have X1 : Hid (w1.heap[w.heap.size]? = some (.cells (enC i s nm t rt d ld cd l ll cl h lh ch tg gr) 52 (0, 0))) := blk11 hb X0.out
        have R1 : Hid (w1.heap[w.heap.size + 1]? = some (.cells (enC 0 0 ⟨#[]⟩ 0 0 none 0 0 none 0 0 none 0 0 0 0) 52 (0, 0))) := blk11 hb R0.out
        have N1 : Hid (Below w0.drew.heap.size w0.drew w1) := hb
        clear ht hb
        try go_wp2_with fail
        refine hK.out _ _ (⟨B1.out, ⟨_, rfl, X1.out⟩, R1.out⟩) (fun hHeld => ?_)
        clear hK K'
        try simp only [Act.put, gA, gS, gZ, sA, sZ, sS]
        refine wpAnyH_ready (rs := [4]) (by kernel_rfl) (by simp) ?_
        refine (AllReadyH.cons rfl (fun K' hK => ?y53) AllReadyH.nil)
        case' y53 =>
          rw [if_pos (by rfl)]
          simp only [gA, gS, gZ]
          have cc : w1.cell? ⟨w.heap.size, 6, none⟩ = some (.slice l ll cl) := by rw [cell_of_row _ _ 6 _ _ _ X1.out]; rfl
          go_wp2_with fail
          refine hK.out _ _ (hHeld) (fun hHeld => ?_)
          clear hK K'
          try simp only [Act.put, gA, gS, gZ, sA, sZ, sS]
          clear cc
          refine tk 9 (.pointer (some ⟨w.heap.size, 5, none⟩)) rfl (.inl ⟨by rfl, ?_⟩) ?_
          · intro w9 hSw
            try dsimp only at hSw
            go_simp
            all_goals try decide
            all_goals try assumption
            all_goals try omega
          try simp only [Act.put, gA, gS, gZ, sA, sZ, sS]
          refine wpAnyH_ready (rs := [5]) (by kernel_rfl) (by simp) ?_
          refine (AllReadyH.cons rfl (fun K' hK => ?y52) AllReadyH.nil)
          case' y52 =>
            rw [if_pos (by rfl)]
            simp only [gA, gS, gZ]
            go_wp2_with fail
            refine (HC2.out _ B1.out).mono ?_
            rintro e w2 ⟨⟨a2, c2, rfl, ht⟩, hb⟩
            have T2 : Hid (Told _ w2 a2 _ c2 _) := ht
            have B2 : Hid (Below w.heap.size w w2) := Below.andThen B1.out hb
            have X2 : Hid (w2.heap[w.heap.size]? = some (.cells (enC i s nm t rt d ld cd l ll cl h lh ch tg gr) 52 (0, 0))) := blk11 hb X1.out
            have R2 : Hid (w2.heap[w.heap.size + 1]? = some (.cells (enC 0 0 ⟨#[]⟩ 0 0 none 0 0 none 0 0 none 0 0 0 0) 52 (0, 0))) := blk11 hb R1.out
            have N2 : Hid (Below w1.heap.size w1 w2) := hb
            clear ht hb
            try go_wp2_with fail
            refine hK.out _ _ (⟨B2.out, ⟨_, rfl, X2.out⟩, R2.out⟩) (fun hHeld => ?_)
            clear hK K'
            try simp only [Act.put, gA, gS, gZ, sA, sZ, sS]
            refine wpAnyH_ready (rs := [8]) (by kernel_rfl) (by simp) ?_
            refine (AllReadyH.cons rfl (fun K' hK => ?y51) AllReadyH.nil)
            case' y51 =>
              rw [if_pos (by rfl)]
              simp only [gA, gS, gZ]
              go_wp2_with fail
              refine (HC3.out _ B2.out).mono ?_
              rintro e w3 ⟨⟨a3, c3, rfl, ht⟩, hb⟩
              have T3 : Hid (Told _ w3 a3 _ c3 _) := ht
              have B3 : Hid (Below w.heap.size w w3) := Below.andThen B2.out hb
              have X3 : Hid (w3.heap[w.heap.size]? = some (.cells (enC i s nm t rt d ld cd l ll cl h lh ch tg gr) 52 (0, 0))) := blk11 hb X2.out
              have R3 : Hid (w3.heap[w.heap.size + 1]? = some (.cells (enC 0 0 ⟨#[]⟩ 0 0 none 0 0 none 0 0 none 0 0 0 0) 52 (0, 0))) := blk11 hb R2.out
              have N3 : Hid (Below w2.heap.size w2 w3) := hb
              clear ht hb
              try go_wp2_with fail
              refine hK.out _ _ (⟨B3.out, ⟨_, rfl, X3.out⟩, R3.out⟩) (fun hHeld => ?_)
              clear hK K'
              try simp only [Act.put, gA, gS, gZ, sA, sZ, sS]
      case' y58 =>
        rw [if_pos (by rfl)]
        simp only [gA, gS, gZ]
        have cc : w0.drew.cell? ⟨w.heap.size, 6, none⟩ = some (.slice l ll cl) := by rw [cell_of_row _ _ 6 _ _ _ X0.out]; rfl
        go_wp2_with fail
        refine hK.out _ _ (hHeld) (fun hHeld => ?_)
        clear hK K'
        try simp only [Act.put, gA, gS, gZ, sA, sZ, sS]
        clear cc
        refine wpAnyH_ready (rs := [2]) (by kernel_rfl) (by simp) ?_
        refine (AllReadyH.cons rfl (fun K' hK => ?y56) AllReadyH.nil)
        case' y56 =>
          rw [if_pos (by rfl)]
          simp only [gA, gS, gZ]
          go_wp2_with fail
          refine (HC1.out _ B0.out).mono ?_
          rintro e w1 ⟨⟨a1, c1, rfl, ht⟩, hb⟩
          have T1 : Hid (Told _ w1 a1 _ c1 _) := ht
          have B1 : Hid (Below w.heap.size w w1) := Below.andThen B0.out hb
          have X1 : Hid (w1.heap[w.heap.size]? = some (.cells (enC i s nm t rt d ld cd l ll cl h lh ch tg gr) 52 (0, 0))) := blk11 hb X0.out
          have R1 : Hid (w1.heap[w.heap.size + 1]? = some (.cells (enC 0 0 ⟨#[]⟩ 0 0 none 0 0 none 0 0 none 0 0 0 0) 52 (0, 0))) := blk11 hb R0.out
          have N1 : Hid (Below w0.drew.heap.size w0.drew w1) := hb
          clear ht hb
          try go_wp2_with fail
          refine hK.out _ _ (⟨B1.out, ⟨_, rfl, X1.out⟩, R1.out⟩) (fun hHeld => ?_)
          clear hK K'
          try simp only [Act.put, gA, gS, gZ, sA, sZ, sS]
          refine tk 9 (.pointer (some ⟨w.heap.size, 5, none⟩)) rfl (.inl ⟨by rfl, ?_⟩) ?_
          · intro w9 hSw
            try dsimp only at hSw
            go_simp
            all_goals try decide
            all_goals try assumption
            all_goals try omega
          try simp only [Act.put, gA, gS, gZ, sA, sZ, sS]
          refine wpAnyH_ready (rs := [5]) (by kernel_rfl) (by simp) ?_
          refine (AllReadyH.cons rfl (fun K' hK => ?y55) AllReadyH.nil)
          case' y55 =>
            rw [if_pos (by rfl)]
            simp only [gA, gS, gZ]
            go_wp2_with fail
            refine (HC2.out _ B1.out).mono ?_
            rintro e w2 ⟨⟨a2, c2, rfl, ht⟩, hb⟩
            have T2 : Hid (Told _ w2 a2 _ c2 _) := ht
            have B2 : Hid (Below w.heap.size w w2) := Below.andThen B1.out hb
            have X2 : Hid (w2.heap[w.heap.size]? = some (.cells (enC i s nm t rt d ld cd l ll cl h lh ch tg gr) 52 (0, 0))) := blk11 hb X1.out
            have R2 : Hid (w2.heap[w.heap.size + 1]? = some (.cells (enC 0 0 ⟨#[]⟩ 0 0 none 0 0 none 0 0 none 0 0 0 0) 52 (0, 0))) := blk11 hb R1.out
            have N2 : Hid (Below w1.heap.size w1 w2) := hb
            clear ht hb
            try go_wp2_with fail
            refine hK.out _ _ (⟨B2.out, ⟨_, rfl, X2.out⟩, R2.out⟩) (fun hHeld => ?_)
            clear hK K'
            try simp only [Act.put, gA, gS, gZ, sA, sZ, sS]
            refine wpAnyH_ready (rs := [8]) (by kernel_rfl) (by simp) ?_
            refine (AllReadyH.cons rfl (fun K' hK => ?y54) AllReadyH.nil)
            case' y54 =>
              rw [if_pos (by rfl)]
              simp only [gA, gS, gZ]
              go_wp2_with fail
              refine (HC3.out _ B2.out).mono ?_
              rintro e w3 ⟨⟨a3, c3, rfl, ht⟩, hb⟩
              have T3 : Hid (Told _ w3 a3 _ c3 _) := ht
              have B3 : Hid (Below w.heap.size w w3) := Below.andThen B2.out hb
              have X3 : Hid (w3.heap[w.heap.size]? = some (.cells (enC i s nm t rt d ld cd l ll cl h lh ch tg gr) 52 (0, 0))) := blk11 hb X2.out
              have R3 : Hid (w3.heap[w.heap.size + 1]? = some (.cells (enC 0 0 ⟨#[]⟩ 0 0 none 0 0 none 0 0 none 0 0 0 0) 52 (0, 0))) := blk11 hb R2.out
              have N3 : Hid (Below w2.heap.size w2 w3) := hb
              clear ht hb
              try go_wp2_with fail
              refine hK.out _ _ (⟨B3.out, ⟨_, rfl, X3.out⟩, R3.out⟩) (fun hHeld => ?_)
              clear hK K'
              try simp only [Act.put, gA, gS, gZ, sA, sZ, sS]
    case' y64 =>
      rw [if_pos (by rfl)]
      simp only [gA, gS, gZ]
      have cc : w0.drew.cell? ⟨w.heap.size, 6, none⟩ = some (.slice l ll cl) := by rw [cell_of_row _ _ 6 _ _ _ X0.out]; rfl
      go_wp2_with fail
      refine hK.out _ _ (hHeld) (fun hHeld => ?_)
      clear hK K'
      try simp only [Act.put, gA, gS, gZ, sA, sZ, sS]
      clear cc
      refine wpAnyH_ready (rs := [1]) (by kernel_rfl) (by simp) ?_
      refine (AllReadyH.cons rfl (fun K' hK => ?y62) AllReadyH.nil)
      case' y62 =>
        rw [if_pos (by rfl)]
        simp only [gA, gS, gZ]
        have cc : w0.drew.cell? ⟨w.heap.size, 5, none⟩ = some (.slice d ld cd) := by rw [cell_of_row _ _ 5 _ _ _ X0.out]; rfl
        go_wp2_with fail
        refine hK.out _ _ (hHeld) (fun hHeld => ?_)
        clear hK K'
        try simp only [Act.put, gA, gS, gZ, sA, sZ, sS]
        clear cc
        refine wpAnyH_ready (rs := [2]) (by kernel_rfl) (by simp) ?_
        refine (AllReadyH.cons rfl (fun K' hK => ?y61) AllReadyH.nil)
        case' y61 =>
          rw [if_pos (by rfl)]
          simp only [gA, gS, gZ]
          go_wp2_with fail
          refine (HC1.out _ B0.out).mono ?_
          rintro e w1 ⟨⟨a1, c1, rfl, ht⟩, hb⟩
          have T1 : Hid (Told _ w1 a1 _ c1 _) := ht
          have B1 : Hid (Below w.heap.size w w1) := Below.andThen B0.out hb
          have X1 : Hid (w1.heap[w.heap.size]? = some (.cells (enC i s nm t rt d ld cd l ll cl h lh ch tg gr) 52 (0, 0))) := blk11 hb X0.out
          have R1 : Hid (w1.heap[w.heap.size + 1]? = some (.cells (enC 0 0 ⟨#[]⟩ 0 0 none 0 0 none 0 0 none 0 0 0 0) 52 (0, 0))) := blk11 hb R0.out
          have N1 : Hid (Below w0.drew.heap.size w0.drew w1) := hb
          clear ht hb
          try go_wp2_with fail
          refine hK.out _ _ (⟨B1.out, ⟨_, rfl, X1.out⟩, R1.out⟩) (fun hHeld => ?_)
          clear hK K'
          try simp only [Act.put, gA, gS, gZ, sA, sZ, sS]
          refine tk 9 (.pointer (some ⟨w.heap.size, 5, none⟩)) rfl (.inl ⟨by rfl, ?_⟩) ?_
          · intro w9 hSw
            try dsimp only at hSw
            go_simp
            all_goals try decide
            all_goals try assumption
            all_goals try omega
          try simp only [Act.put, gA, gS, gZ, sA, sZ, sS]
          refine wpAnyH_ready (rs := [5]) (by kernel_rfl) (by simp) ?_
          refine (AllReadyH.cons rfl (fun K' hK => ?y60) AllReadyH.nil)
          case' y60 =>
            rw [if_pos (by rfl)]
            simp only [gA, gS, gZ]
            go_wp2_with fail
            refine (HC2.out _ B1.out).mono ?_
            rintro e w2 ⟨⟨a2, c2, rfl, ht⟩, hb⟩
            have T2 : Hid (Told _ w2 a2 _ c2 _) := ht
            have B2 : Hid (Below w.heap.size w w2) := Below.andThen B1.out hb
            have X2 : Hid (w2.heap[w.heap.size]? = some (.cells (enC i s nm t rt d ld cd l ll cl h lh ch tg gr) 52 (0, 0))) := blk11 hb X1.out
            have R2 : Hid (w2.heap[w.heap.size + 1]? = some (.cells (enC 0 0 ⟨#[]⟩ 0 0 none 0 0 none 0 0 none 0 0 0 0) 52 (0, 0))) := blk11 hb R1.out
            have N2 : Hid (Below w1.heap.size w1 w2) := hb
            clear ht hb
            try go_wp2_with fail
            refine hK.out _ _ (⟨B2.out, ⟨_, rfl, X2.out⟩, R2.out⟩) (fun hHeld => ?_)
            clear hK K'
            try simp only [Act.put, gA, gS, gZ, sA, sZ, sS]
            refine wpAnyH_ready (rs := [8]) (by kernel_rfl) (by simp) ?_
            refine (AllReadyH.cons rfl (fun K' hK => ?y59) AllReadyH.nil)
            case' y59 =>
              rw [if_pos (by rfl)]
              simp only [gA, gS, gZ]
              go_wp2_with fail
              refine (HC3.out _ B2.out).mono ?_
              rintro e w3 ⟨⟨a3, c3, rfl, ht⟩, hb⟩
              have T3 : Hid (Told _ w3 a3 _ c3 _) := ht
              have B3 : Hid (Below w.heap.size w w3) := Below.andThen B2.out hb
              have X3 : Hid (w3.heap[w.heap.size]? = some (.cells (enC i s nm t rt d ld cd l ll cl h lh ch tg gr) 52 (0, 0))) := blk11 hb X2.out
              have R3 : Hid (w3.heap[w.heap.size + 1]? = some (.cells (enC 0 0 ⟨#[]⟩ 0 0 none 0 0 none 0 0 none 0 0 0 0) 52 (0, 0))) := blk11 hb R2.out
              have N3 : Hid (Below w2.heap.size w2 w3) := hb
              clear ht hb
              try go_wp2_with fail
              refine hK.out _ _ (⟨B3.out, ⟨_, rfl, X3.out⟩, R3.out⟩) (fun hHeld => ?_)
              clear hK K'
              try simp only [Act.put, gA, gS, gZ, sA, sZ, sS]
  all_goals
    clear HC1 HC2 HC3
    refine wpAnyH_ready (rs := [10]) (by kernel_rfl) (by simp) ?_
    refine AllReadyH.cons rfl (fun K' hK => ?_) AllReadyH.nil
    rw [if_pos (by rfl)]
    simp only [gA, gS, gZ]
    refine wp_store_by 24 _ _ rfl ⟨w.heap.size, 5, none⟩ _ rfl rfl (store_sl _ sizeSl _ w.heap.size 5 a1 ld c1 _ _ (X3.out) (by simp)) ?_
    refine hK.out _ _ (⟨below_setRow hHeld.1 (Nat.le_refl _) _, ⟨_, rfl, setRow_heap _ _ _ (enC i s nm t rt a1 ld c1 l ll cl h lh ch tg gr) _ _ (X3.out)⟩, (setRow_other _ _ _ _ (by omega)).trans hHeld.2.2⟩) (fun hHeld => ?_)
    clear hK K'
    try simp only [Act.put, gA, gS, gZ, sA, sZ, sS]
    have Y1 := setRow_heap _ _ _ (enC i s nm t rt a1 ld c1 l ll cl h lh ch tg gr) _ _ X3.out
    refine tk 11 (.pointer (some ⟨w.heap.size, 6, none⟩)) rfl (.inl ⟨by rfl, ?_⟩) ?_
    · intro w9 hSw
      try dsimp only at hSw
      go_simp
      all_goals try decide
      all_goals try assumption
      all_goals try omega
    try simp only [Act.put, gA, gS, gZ, sA, sZ, sS]
    refine wpAnyH_ready (rs := [12]) (by kernel_rfl) (by simp) ?_
    refine AllReadyH.cons rfl (fun K' hK => ?_) AllReadyH.nil
    rw [if_pos (by rfl)]
    simp only [gA, gS, gZ]
    refine wp_store_by 24 _ _ rfl ⟨w.heap.size, 6, none⟩ _ rfl rfl (store_sl _ sizeSl _ w.heap.size 6 a2 ll c2 _ _ (Y1) (by simp)) ?_
    refine hK.out _ _ (⟨below_setRow hHeld.1 (Nat.le_refl _) _, ⟨_, rfl, setRow_heap _ _ _ (enC i s nm t rt a1 ld c1 a2 ll c2 h lh ch tg gr) _ _ (Y1)⟩, (setRow_other _ _ _ _ (by omega)).trans hHeld.2.2⟩) (fun hHeld => ?_)
    clear hK K'
    try simp only [Act.put, gA, gS, gZ, sA, sZ, sS]
    have Y2 := setRow_heap _ _ _ (enC i s nm t rt a1 ld c1 a2 ll c2 h lh ch tg gr) _ _ Y1
    refine tk 13 (.pointer (some ⟨w.heap.size, 7, none⟩)) rfl (.inl ⟨by rfl, ?_⟩) ?_
    · intro w9 hSw
      try dsimp only at hSw
      go_simp
      all_goals try decide
      all_goals try assumption
      all_goals try omega
    try simp only [Act.put, gA, gS, gZ, sA, sZ, sS]
    refine wpAnyH_ready (rs := [14]) (by kernel_rfl) (by simp) ?_
    refine AllReadyH.cons rfl (fun K' hK => ?_) AllReadyH.nil
    rw [if_pos (by rfl)]
    simp only [gA, gS, gZ]
    refine wp_store_by 24 _ _ rfl ⟨w.heap.size, 7, none⟩ _ rfl rfl (store_sl _ sizeSl _ w.heap.size 7 a3 lh c3 _ _ (Y2) (by simp)) ?_
    refine hK.out _ _ (⟨below_setRow hHeld.1 (Nat.le_refl _) _, ⟨_, rfl, setRow_heap _ _ _ (enC i s nm t rt a1 ld c1 a2 ll c2 a3 lh c3 tg gr) _ _ (Y2)⟩, (setRow_other _ _ _ _ (by omega)).trans hHeld.2.2⟩) (fun hHeld => ?_)
    clear hK K'
    try simp only [Act.put, gA, gS, gZ, sA, sZ, sS]
    have Y3 := setRow_heap _ _ _ (enC i s nm t rt a1 ld c1 a2 ll c2 a3 lh c3 tg gr) _ _ Y2
    refine wpAnyH_done (by kernel_rfl) ?_ _
    obtain ⟨W4, HW4⟩ : ∃ W4, Hid (((w3.setRow w.heap.size (enC i s nm t rt a1 ld c1 l ll cl h lh ch tg gr)).setRow w.heap.size (enC i s nm t rt a1 ld c1 a2 ll c2 h lh ch tg gr)).setRow w.heap.size (enC i s nm t rt a1 ld c1 a2 ll c2 a3 lh c3 tg gr) = W4) := ⟨_, rfl⟩
    have B4 : Hid (Below w.heap.size w W4) := by show Below _ _ _; rw [← HW4.out]; exact hHeld.1
    have X4 : Hid (W4.heap[w.heap.size]? = some (.cells (enC i s nm t rt a1 ld c1 a2 ll c2 a3 lh c3 tg gr) 52 (0, 0))) := by show _ = _; rw [← HW4.out]; exact Y3
    have R4 : Hid (W4.heap[w.heap.size + 1]? = some (.cells (enC 0 0 ⟨#[]⟩ 0 0 none 0 0 none 0 0 none 0 0 0 0) 52 (0, 0))) := by show _ = _; rw [← HW4.out]; exact hHeld.2.2
    have K4 : Hid (∀ g, w.heap.size + 1 < g → W4.heap[g]? = w3.heap[g]?) := fun g hg => by rw [← HW4.out, setRow_other _ _ _ _ (by omega), setRow_other _ _ _ _ (by omega), setRow_other _ _ _ _ (by omega)]
    rw [show ((w3.setRow w.heap.size _).setRow w.heap.size _).setRow w.heap.size _ = W4 from HW4.out]
    clear hHeld Y1 Y2 Y3 HW4
    go_wp2_with (first | (refine wpList_load_by rfl 52 _ rfl ⟨w.heap.size, 0, none⟩ _ rfl (loadE _ _ i s nm t rt a1 ld c1 a2 ll c2 a3 lh c3 tg gr _ X4.out) ?_) | (refine wpList_store_by rfl 52 _ _ rfl ⟨w.heap.size + 1, 0, none⟩ _ rfl rfl (storeE _ _ _ i s nm t rt a1 ld c1 a2 ll c2 a3 lh c3 tg gr _ R4.out rfl) ?_))
    have hcc := fun j => cell_of_row _ (w.heap.size + 1) j _ _ _ (setRow_heap _ _ _ (enC i s nm t rt a1 ld c1 a2 ll c2 a3 lh c3 tg gr) _ _ R4.out)
    have keep : Hid (∀ g, w.heap.size + 1 < g → (W4.setRow (w.heap.size + 1) (enC i s nm t rt a1 ld c1 a2 ll c2 a3 lh c3 tg gr)).heap[g]? = w3.heap[g]?) := fun g hg => by rw [setRow_other _ _ _ _ (by omega), K4.out g hg]
    refine bodyPost_ret (v := .agg (enC i s nm t rt a1 ld c1 a2 ll c2 a3 lh c3 tg gr)) ?_ rfl ⟨a1, c1, a2, c2, a3, c3, rfl, ?_, ?_, ?_, below_setRow B4.out (Nat.le_succ _) _⟩
    · simp [results, Tryz.results37, go_sem, hcc]
    · exact T1.out.keep11 B0.out.size (fun g g1 g2 => by rw [keep.out g (by have := L0.out; omega), N3.out.block g (Nat.lt_of_lt_of_le g2 N2.out.size), N2.out.block g g2])
    · exact T2.out.keep11 B1.out.size (fun g g1 g2 => by rw [keep.out g (by have := L0.out; have := N1.out.size; omega), N3.out.block g g2])
    · exact T3.out.keep11 B2.out.size (fun g g1 g2 => by rw [keep.out g (by have := L0.out; have := N1.out.size; have := N2.out.size; omega)])
#print axioms copyOf_any
set_option linter.unusedSimpArgs false in
set_option maxHeartbeats 4000000 in
set_option maxRecDepth 100000 in
theorem has_any (i s : Int) (nm : ByteArray) (t rt : Int) (d : Option Addr) (ld cd : Nat) (l : Option Addr) (ll cl : Nat) (h : Option Addr) (lh ch : Nat) (tg gr : Int) (v : Option Addr) (lv cv : Nat) (r : Int) (w : World) : Calls Tryz.prog 48 #[.agg (itC i s nm t rt d ld cd l ll cl h lh ch tg gr v lv cv), .int .u8 r] w fun e w' => e = .returned (.bool (bits .and .u8 rt r != 0)) ∧ Below w.heap.size w w' := by
  go_enter Tryz.func48, Tryz.ntmps48
  go_wp2_with fail
  go_ret
  exact ⟨rfl, (by repeat (first | exact Below.refl _ _ | apply Below.drew | apply Below.al))⟩
set_option linter.unusedSimpArgs false in
set_option maxHeartbeats 4000000 in
set_option maxRecDepth 100000 in
theorem icheck_any (i s : Int) (nm : ByteArray) (t rt : Int) (d : Option Addr) (ld cd : Nat) (l : Option Addr) (ll cl : Nat) (h : Option Addr) (lh ch : Nat) (tg gr : Int) (v : Option Addr) (lv cv : Nat) (b : Option Addr) (lb cb : Nat) (zb zl zh : List Int) (w : World) (rb : SlOk w b lb cb zb) (rl : SlOk w l ll cl zl) (rh : SlOk w h lh ch zh) (hT : Ty.Tab64 w) :
    Calls Tryz.prog 49 #[.agg (itC i s nm t rt d ld cd l ll cl h lh ch tg gr v lv cv), .slice b lb cb] w fun e w' => e = .returned (.int .u32 (Ty.chkN t zb zl zh)) ∧ Below w.heap.size w w' := by
  have HC : Hid (∀ W, Below w.heap.size w W → Calls Tryz.prog 57 #[.int .u8 t, .slice b lb cb, .slice l ll cl, .slice h lh ch] W fun e w' => e = .returned (.int .u32 (Ty.chkN t zb zl zh)) ∧ Below W.heap.size W w') := fun W hb => check8 t b l h lb cb ll cl lh ch zb zl zh W (rb.next hb) (rl.next hb) (rh.next hb) (tab_next hT hb)
  clear rb rl rh hT
  go_enter Tryz.func49, Tryz.ntmps49
  go_wp2_with fail
  refine (HC.out _ (by repeat (first | exact Below.refl _ _ | apply Below.drew | apply Below.al))).mono ?_
  rintro e w1 ⟨rfl, hb⟩
  have B1 : Hid (Below w.heap.size w w1) := Below.andThen (by repeat (first | exact Below.refl _ _ | apply Below.drew | apply Below.al)) hb
  clear hb
  go_wp2_with fail
  go_ret
  exact ⟨rfl, B1.out⟩
end Go.Proofs.YtajllkkbgpijiaaGreatDoor
