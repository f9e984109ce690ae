/-
  mayBe of any entry.
-/
import Derived.Test.YtajllkkbgpijiaaGreatDoorDg
import Derived.Test.YtajllkkbgpijiaaGreatDoorTk9
namespace Go.Proofs.YtajllkkbgpijiaaGreatDoor
open Go.RowKit

set_option linter.unusedSimpArgs false in
set_option maxHeartbeats 4000000 in
set_option maxRecDepth 100000 in
theorem mayBound_no (E : Nat) (i s : Int) (nm : ByteArray) (t rt : Int) (d : Option Addr) (ld cd : Nat) (l : Option Addr) (ll cl : Nat) (h : Option Addr) (lh ch : Nat) (tg gr : Int) (b : Option Addr) (lb cb : Nat) (zb : List Int) (w : World) (hE : w.heap[E]? = some (.cells (enC i s nm t rt d ld cd l ll cl h lh ch tg gr) 52 (0, 0))) (rb : SlOk w b lb cb zb) (hT : Ty.Tab64 w) (hB : boundB t zb = false) :
    Calls Tryz.prog 56 #[.slice b lb cb, .pointer (some ⟨E, 0, none⟩)] w fun e w' => e = .returned (.bool false) ∧ Below w.heap.size w w' := by
  have hs := rb.row.size
  have c3 : w.cell? ⟨E, 3, none⟩ = some (.int .u8 t) := by rw [cell_of_row w _ 3 _ _ _ hE]; rfl
  clear hE
  simp only [boundB, Bool.or_eq_false_iff] at hB
  obtain ⟨hz, hk⟩ := hB
  have hp : 0 < lb := by
    have : zb.length ≠ 0 := by simpa using hz
    omega
  obtain ⟨c, hc⟩ : ∃ c, Ty.chkN t zb [] [] = c := ⟨_, rfl⟩
  rw [hc] at hk
  have HC : Hid (Calls Tryz.prog 57 #[.int .u8 t, .slice b lb cb, .slice none 0 0, .slice none 0 0] w fun e w' => e = .returned (.int .u32 c) ∧ Below w.heap.size w w') := by
    have := check8 t b none none lb cb 0 0 0 0 zb [] [] w rb (slOk_nil _) (slOk_nil _) hT
    rw [hc] at this
    exact this
  have hp' : ((lb : Int) == 0) = false := by simp; omega
  clear hs hc rb hz
  go_enter Tryz.func56, Tryz.ntmps56
  go_wp2_with fail
  refine HC.out.mono ?_
  rintro e w1 ⟨rfl, hb⟩
  go_wp2_with fail
  go_ret
  exact ⟨rfl, hb⟩

set_option linter.unusedSimpArgs false in
set_option maxHeartbeats 4000000 in
set_option maxRecDepth 100000 in
theorem mayBe_no1 (i s : Int) (nm : ByteArray) (t rt : Int) (d : Option Addr) (ld cd : Nat) (l : Option Addr) (ll cl : Nat) (h : Option Addr) (lh ch : Nat) (tg gr : Int) (w : World) (hk : Ty.Pl.kindN t = 0) :
    Calls Tryz.prog 35 #[.agg (enC i s nm t rt d ld cd l ll cl h lh ch tg gr)] w fun e w' => e = .returned (.bool false) ∧ Below w.heap.size w w' := by
  have hmf : ∀ (fn : Fn) (first cap : Array Value) (w : World), (Instr.makeFunc fn first cap).run Tryz.prog w = .ok (.func fn first cap) w := fun _ _ _ _ => rfl
  have HR : Hid (∀ W, Calls Tryz.prog 58 #[.int .u8 t] W fun e w' => e = .returned (.bool false) ∧ w' = W) := fun W => by
    have := Ty.right_any t W
    rw [show (Ty.Pl.kindN t != 0) = false by simpa using hk] at this
    exact this
  clear hk
  go_enter Tryz.func35, Tryz.ntmps35
  go_wp2_with fail
  refine (HR.out _).mono ?_
  rintro e w9 ⟨rfl, rfl⟩
  go_wp2_with fail
  go_ret
  exact ⟨rfl, (by repeat (first | exact Below.refl _ _ | apply Below.drew | apply Below.al))⟩

set_option linter.unusedSimpArgs false in
set_option maxHeartbeats 4000000 in
set_option maxRecDepth 100000 in
theorem mayBe_no2 (i s : Int) (nm : ByteArray) (t rt : Int) (d : Option Addr) (ld cd : Nat) (l : Option Addr) (ll cl : Nat) (h : Option Addr) (lh ch : Nat) (tg gr : Int) (w : World) (hk : Ty.Pl.kindN t ≠ 0) (h1 : 15 < rt) :
    Calls Tryz.prog 35 #[.agg (enC i s nm t rt d ld cd l ll cl h lh ch tg gr)] w fun e w' => e = .returned (.bool false) ∧ Below w.heap.size w w' := by
  have hmf : ∀ (fn : Fn) (first cap : Array Value) (w : World), (Instr.makeFunc fn first cap).run Tryz.prog w = .ok (.func fn first cap) w := fun _ _ _ _ => rfl
  have HR : Hid (∀ W, Calls Tryz.prog 58 #[.int .u8 t] W fun e w' => e = .returned (.bool true) ∧ w' = W) := fun W => by
    have := Ty.right_any t W
    rw [show (Ty.Pl.kindN t != 0) = true by simpa using hk] at this
    exact this
  clear hk
  go_enter Tryz.func35, Tryz.ntmps35
  go_wp2_with fail
  refine (HR.out _).mono ?_
  rintro e w9 ⟨rfl, rfl⟩
  go_wp2_with fail
  go_ret
  exact ⟨rfl, (by repeat (first | exact Below.refl _ _ | apply Below.drew | apply Below.al))⟩

set_option linter.unusedSimpArgs false in
set_option maxHeartbeats 4000000 in
set_option maxRecDepth 100000 in
theorem mayBe_no3 (i s : Int) (nm : ByteArray) (t rt : Int) (d : Option Addr) (ld cd : Nat) (l : Option Addr) (ll cl : Nat) (h : Option Addr) (lh ch : Nat) (tg gr : Int) (w : World) (hk : Ty.Pl.kindN t ≠ 0) (h0 : rt ≤ 15) (h1 : 16 < gr) :
    Calls Tryz.prog 35 #[.agg (enC i s nm t rt d ld cd l ll cl h lh ch tg gr)] w fun e w' => e = .returned (.bool false) ∧ Below w.heap.size w w' := by
  have hmf : ∀ (fn : Fn) (first cap : Array Value) (w : World), (Instr.makeFunc fn first cap).run Tryz.prog w = .ok (.func fn first cap) w := fun _ _ _ _ => rfl
  have HR : Hid (∀ W, Calls Tryz.prog 58 #[.int .u8 t] W fun e w' => e = .returned (.bool true) ∧ w' = W) := fun W => by
    have := Ty.right_any t W
    rw [show (Ty.Pl.kindN t != 0) = true by simpa using hk] at this
    exact this
  have b1 : ¬ 15 < rt := by omega
  clear hk
  go_enter Tryz.func35, Tryz.ntmps35
  go_wp2_with fail
  refine (HR.out _).mono ?_
  rintro e w9 ⟨rfl, rfl⟩
  go_wp2_with fail
  go_ret
  exact ⟨rfl, (by repeat (first | exact Below.refl _ _ | apply Below.drew | apply Below.al))⟩

set_option linter.unusedSimpArgs false in
set_option maxHeartbeats 4000000 in
set_option maxRecDepth 100000 in
theorem mayBe_no4 (i s : Int) (nm : ByteArray) (t rt : Int) (d : Option Addr) (ld cd : Nat) (l : Option Addr) (ll cl : Nat) (h : Option Addr) (lh ch : Nat) (tg gr : Int) (w : World) (hk : Ty.Pl.kindN t ≠ 0) (h0 : rt ≤ 15) (h2 : gr ≤ 16) (h1 : 100 < nm.size) :
    Calls Tryz.prog 35 #[.agg (enC i s nm t rt d ld cd l ll cl h lh ch tg gr)] w fun e w' => e = .returned (.bool false) ∧ Below w.heap.size w w' := by
  have hmf : ∀ (fn : Fn) (first cap : Array Value) (w : World), (Instr.makeFunc fn first cap).run Tryz.prog w = .ok (.func fn first cap) w := fun _ _ _ _ => rfl
  have HR : Hid (∀ W, Calls Tryz.prog 58 #[.int .u8 t] W fun e w' => e = .returned (.bool true) ∧ w' = W) := fun W => by
    have := Ty.right_any t W
    rw [show (Ty.Pl.kindN t != 0) = true by simpa using hk] at this
    exact this
  have b1 : ¬ 15 < rt := by omega
  have b2 : ¬ 16 < gr := by omega
  have b3 : (100 : Int) < (nm.size : Int) := by omega
  clear hk
  go_enter Tryz.func35, Tryz.ntmps35
  go_wp2_with fail
  refine (HR.out _).mono ?_
  rintro e w9 ⟨rfl, rfl⟩
  go_wp2_with fail
  go_ret
  exact ⟨rfl, (by repeat (first | exact Below.refl _ _ | apply Below.drew | apply Below.al))⟩

set_option linter.unusedSimpArgs false in
set_option maxHeartbeats 4000000 in
set_option maxRecDepth 100000 in
theorem mayBe_no5 (i s : Int) (nm : ByteArray) (t rt : Int) (d : Option Addr) (ld cd : Nat) (l : Option Addr) (ll cl : Nat) (h : Option Addr) (lh ch : Nat) (tg gr : Int) (zl : List Int) (w : World) (rl : SlOk w l ll cl zl) (hT : Ty.Tab64 w) (hk : Ty.Pl.kindN t ≠ 0) (hr : rt ≤ 15) (hg : gr ≤ 16) (hn : nm.size ≤ 100) (hL : boundB t zl = false) :
    Calls Tryz.prog 35 #[.agg (enC i s nm t rt d ld cd l ll cl h lh ch tg gr)] w fun e w' => e = .returned (.bool false) ∧ Below w.heap.size w w' := by
  have hmf : ∀ (fn : Fn) (first cap : Array Value) (w : World), (Instr.makeFunc fn first cap).run Tryz.prog w = .ok (.func fn first cap) w := fun _ _ _ _ => rfl
  have HR : Hid (∀ W, Calls Tryz.prog 58 #[.int .u8 t] W fun e w' => e = .returned (.bool true) ∧ w' = W) := fun W => by
    have := Ty.right_any t W
    rw [show (Ty.Pl.kindN t != 0) = true by simpa using hk] at this
    exact this
  have HM1 : Hid (∀ W, Below w.heap.size w W → W.heap[w.heap.size]? = some (.cells (enC i s nm t rt d ld cd l ll cl h lh ch tg gr) 52 (0, 0)) → Calls Tryz.prog 56 #[.slice l ll cl, .pointer (some ⟨w.heap.size, 0, none⟩)] W fun e w' => e = .returned (.bool false) ∧ Below W.heap.size W w') := fun W hb hx => mayBound_no _ i s nm t rt d ld cd l ll cl h lh ch tg gr l ll cl zl W hx (rl.next hb) (tab_next hT hb) hL
  have b1 : ¬ 15 < rt := by omega
  have b2 : ¬ 16 < gr := by omega
  have b3 : ¬ (100 : Int) < (nm.size : Int) := by omega
  clear rl hT hk hL hr hg hn
  go_enter Tryz.func35, Tryz.ntmps35
  go_wp2_with fail
  refine (HR.out _).mono ?_
  rintro e w9 ⟨rfl, rfl⟩
  go_wp2_with fail
  refine (HM1.out _ (by repeat (first | exact Below.refl _ _ | apply Below.drew | apply Below.al)) (at11 _ _ _ rfl)).mono ?_
  rintro e w1 ⟨rfl, hb⟩
  have B1 : Hid (Below w.heap.size w w1) := Below.andThen (by repeat (first | exact Below.refl _ _ | apply Below.drew | apply Below.al)) hb
  clear hb
  go_wp2_with fail
  go_ret
  exact ⟨rfl, B1.out⟩

set_option linter.unusedSimpArgs false in
set_option maxHeartbeats 4000000 in
set_option maxRecDepth 100000 in
theorem mayBe_no6 (i s : Int) (nm : ByteArray) (t rt : Int) (d : Option Addr) (ld cd : Nat) (l : Option Addr) (ll cl : Nat) (h : Option Addr) (lh ch : Nat) (tg gr : Int) (zl zh : List Int) (w : World) (rl : SlOk w l ll cl zl) (rh : SlOk w h lh ch zh) (hT : Ty.Tab64 w) (hk : Ty.Pl.kindN t ≠ 0) (hr : rt ≤ 15) (hg : gr ≤ 16) (hn : nm.size ≤ 100) (hL : boundB t zl = true) (hH : boundB t zh = false) :
    Calls Tryz.prog 35 #[.agg (enC i s nm t rt d ld cd l ll cl h lh ch tg gr)] w fun e w' => e = .returned (.bool false) ∧ Below w.heap.size w w' := by
  have hmf : ∀ (fn : Fn) (first cap : Array Value) (w : World), (Instr.makeFunc fn first cap).run Tryz.prog w = .ok (.func fn first cap) w := fun _ _ _ _ => rfl
  have HR : Hid (∀ W, Calls Tryz.prog 58 #[.int .u8 t] W fun e w' => e = .returned (.bool true) ∧ w' = W) := fun W => by
    have := Ty.right_any t W
    rw [show (Ty.Pl.kindN t != 0) = true by simpa using hk] at this
    exact this
  have HM1 : Hid (∀ W, Below w.heap.size w W → W.heap[w.heap.size]? = some (.cells (enC i s nm t rt d ld cd l ll cl h lh ch tg gr) 52 (0, 0)) → Calls Tryz.prog 56 #[.slice l ll cl, .pointer (some ⟨w.heap.size, 0, none⟩)] W fun e w' => e = .returned (.bool true) ∧ Below W.heap.size W w') := fun W hb hx => mayBound_any _ i s nm t rt d ld cd l ll cl h lh ch tg gr l ll cl zl W hx (rl.next hb) (tab_next hT hb) hL
  have HM2 : Hid (∀ W, Below w.heap.size w W → W.heap[w.heap.size]? = some (.cells (enC i s nm t rt d ld cd l ll cl h lh ch tg gr) 52 (0, 0)) → Calls Tryz.prog 56 #[.slice h lh ch, .pointer (some ⟨w.heap.size, 0, none⟩)] W fun e w' => e = .returned (.bool false) ∧ Below W.heap.size W w') := fun W hb hx => mayBound_no _ i s nm t rt d ld cd l ll cl h lh ch tg gr h lh ch zh W hx (rh.next hb) (tab_next hT hb) hH
  have b1 : ¬ 15 < rt := by omega
  have b2 : ¬ 16 < gr := by omega
  have b3 : ¬ (100 : Int) < (nm.size : Int) := by omega
  clear rl rh hT hk hL hH hr hg hn
  go_enter Tryz.func35, Tryz.ntmps35
  go_wp2_with fail
  refine (HR.out _).mono ?_
  rintro e w9 ⟨rfl, rfl⟩
  go_wp2_with fail
  refine (HM1.out _ (by repeat (first | exact Below.refl _ _ | apply Below.drew | apply Below.al)) (at11 _ _ _ rfl)).mono ?_
  rintro e w1 ⟨rfl, hb⟩
  have B1 : Hid (Below w.heap.size w w1) := Below.andThen (by repeat (first | exact Below.refl _ _ | apply Below.drew | apply Below.al)) hb
  have X1 : Hid (w1.heap[w.heap.size]? = some (.cells (enC i s nm t rt d ld cd l ll cl h lh ch tg gr) 52 (0, 0))) := blk11 hb (at11 _ _ _ rfl)
  have c7 : w1.cell? ⟨w.heap.size, 7, none⟩ = some (.slice h lh ch) := by rw [cell_of_row _ _ 7 _ _ _ X1.out]; rfl
  clear hb
  go_wp2_with fail
  refine (HM2.out _ B1.out X1.out).mono ?_
  rintro e w2 ⟨rfl, hb⟩
  have B2 : Hid (Below w.heap.size w w2) := Below.andThen B1.out hb
  clear hb c7
  go_wp2_with fail
  go_ret
  exact ⟨rfl, B2.out⟩

set_option linter.unusedSimpArgs false in
set_option maxHeartbeats 4000000 in
set_option maxRecDepth 100000 in
theorem mayBe_chk (i s : Int) (nm : ByteArray) (t rt : Int) (d : Option Addr) (ld cd : Nat) (l : Option Addr) (ll cl : Nat) (h : Option Addr) (lh ch : Nat) (tg gr : Int) (zd zl zh : List Int) (w : World) (rd : SlOk w d ld cd zd) (rl : SlOk w l ll cl zl) (rh : SlOk w h lh ch zh) (hT : Ty.Tab64 w) (hk : Ty.Pl.kindN t ≠ 0) (hr : rt ≤ 15) (hg : gr ≤ 16) (hn : nm.size ≤ 100) (hL : boundB t zl = true) (hH : boundB t zh = true) (cq : Int) (hc : Ty.chkN t (firstL t zd) zl zh = cq) (hc0 : cq ≠ 0) :
    Calls Tryz.prog 35 #[.agg (enC i s nm t rt d ld cd l ll cl h lh ch tg gr)] w fun e w' => e = .returned (.bool false) ∧ Below w.heap.size w w' := by
  have cz : (cq == 0) = false := by simpa using hc0
  have hmf : ∀ (fn : Fn) (first cap : Array Value) (w : World), (Instr.makeFunc fn first cap).run Tryz.prog w = .ok (.func fn first cap) w := fun _ _ _ _ => rfl
  have HR : Hid (∀ W, Calls Tryz.prog 58 #[.int .u8 t] W fun e w' => e = .returned (.bool true) ∧ w' = W) := fun W => by
    have := Ty.right_any t W
    rw [show (Ty.Pl.kindN t != 0) = true by simpa using hk] at this
    exact this
  have HM1 : Hid (∀ W, Below w.heap.size w W → W.heap[w.heap.size]? = some (.cells (enC i s nm t rt d ld cd l ll cl h lh ch tg gr) 52 (0, 0)) → Calls Tryz.prog 56 #[.slice l ll cl, .pointer (some ⟨w.heap.size, 0, none⟩)] W fun e w' => e = .returned (.bool true) ∧ Below W.heap.size W w') := fun W hb hx => mayBound_any _ i s nm t rt d ld cd l ll cl h lh ch tg gr l ll cl zl W hx (rl.next hb) (tab_next hT hb) hL
  have HM2 : Hid (∀ W, Below w.heap.size w W → W.heap[w.heap.size]? = some (.cells (enC i s nm t rt d ld cd l ll cl h lh ch tg gr) 52 (0, 0)) → Calls Tryz.prog 56 #[.slice h lh ch, .pointer (some ⟨w.heap.size, 0, none⟩)] W fun e w' => e = .returned (.bool true) ∧ Below W.heap.size W w') := fun W hb hx => mayBound_any _ i s nm t rt d ld cd l ll cl h lh ch tg gr h lh ch zh W hx (rh.next hb) (tab_next hT hb) hH
  have HF : Hid (∀ W, Below w.heap.size w W → Calls Tryz.prog 39 #[.agg (enC i s nm t rt d ld cd l ll cl h lh ch tg gr)] W fun e w' => ∃ a n c, e = .returned (.slice a n c) ∧ SlOk w' a n c (firstL t zd) ∧ Below W.heap.size W w') := fun W hb => atFirst_any i s nm t rt d ld cd l ll cl h lh ch tg gr zd W (rd.next hb)
  have HC : Hid (∀ W a n c, Below w.heap.size w W → SlOk W a n c (firstL t zd) → Calls Tryz.prog 57 #[.int .u8 t, .slice a n c, .slice l ll cl, .slice h lh ch] W fun e w' => e = .returned (.int .u32 cq) ∧ Below W.heap.size W w') := fun W a n c hb ha => by
    have := check8 t a l h n c ll cl lh ch (firstL t zd) zl zh W ha (rl.next hb) (rh.next hb) (tab_next hT hb)
    rw [hc] at this
    exact this
  have b1 : ¬ 15 < rt := by omega
  have b2 : ¬ 16 < gr := by omega
  have b3 : ¬ (100 : Int) < (nm.size : Int) := by omega
  clear rd rl rh hT hk hL hH hc hr hg hn hc0
  go_enter Tryz.func35, Tryz.ntmps35
  go_wp2_with fail
  refine (HR.out _).mono ?_
  rintro e w9 ⟨rfl, rfl⟩
  go_wp2_with fail
  refine (HM1.out _ (by repeat (first | exact Below.refl _ _ | apply Below.drew | apply Below.al)) (at11 _ _ _ rfl)).mono ?_
  rintro e w1 ⟨rfl, hb⟩
  have B1 : Hid (Below w.heap.size w w1) := Below.andThen (by repeat (first | exact Below.refl _ _ | apply Below.drew | apply Below.al)) hb
  have X1 : Hid (w1.heap[w.heap.size]? = some (.cells (enC i s nm t rt d ld cd l ll cl h lh ch tg gr) 52 (0, 0))) := blk11 hb (at11 _ _ _ rfl)
  have c7 : w1.cell? ⟨w.heap.size, 7, none⟩ = some (.slice h lh ch) := by rw [cell_of_row _ _ 7 _ _ _ X1.out]; rfl
  clear hb
  go_wp2_with fail
  refine (HM2.out _ B1.out X1.out).mono ?_
  rintro e w2 ⟨rfl, hb⟩
  have B2 : Hid (Below w.heap.size w w2) := Below.andThen B1.out hb
  have X2 : Hid (w2.heap[w.heap.size]? = some (.cells (enC i s nm t rt d ld cd l ll cl h lh ch tg gr) 52 (0, 0))) := blk11 hb X1.out
  clear hb c7
  go_wp2_with fail
  refine wp_region_held_drew (S := fun x => Below w.heap.size w x ∧ x.heap[w.heap.size]? = some (.cells (enC i s nm t rt d ld cd l ll cl h lh ch tg gr) 52 (0, 0))) (by kernel_rfl) (⟨Below.drew B2.out, X2.out⟩) (fun hHeld => ?_)
  refine tk 0 (.pointer (some ⟨w.heap.size, 3, none⟩)) rfl (.inl ⟨by rfl, ?_⟩) ?_
  · intro w9 hSw
    try dsimp only at hSw
    go_simp
    all_goals try decide
    all_goals try assumption
    all_goals try omega
  try simp only [Act.put, gA, gS, gZ, sA, sZ, sS]
  refine tk 1 (.int .u8 t) rfl (.inl ⟨by rfl, ?_⟩) ?_
  · intro w9 hSw
    try dsimp only at hSw
    have c0 : w9.cell? ⟨w.heap.size, 3, none⟩ = some (.int .u8 t) := by rw [cell_of_row _ _ 3 _ _ _ hSw.2]; rfl
    go_simp
    all_goals try assumption
  try simp only [Act.put, gA, gS, gZ, sA, sZ, sS]
  refine tk 2 (.agg (enC i s nm t rt d ld cd l ll cl h lh ch tg gr)) rfl (.inl ⟨by rfl, ?_⟩) ?_
  · intro w9 hSw
    try dsimp only at hSw
    exact ex_load11 52 (.tmp 1) rfl _ _ rfl (loadE _ _ i s nm t rt d ld cd l ll cl h lh ch tg gr _ hSw.2)
  try simp only [Act.put, gA, gS, gZ, sA, sZ, sS]
  refine tk 4 (.pointer (some ⟨w.heap.size, 6, none⟩)) rfl (.inl ⟨by rfl, ?_⟩) ?_
  · intro w9 hSw
    try dsimp only at hSw
    go_simp
    all_goals try decide
    all_goals try assumption
    all_goals try omega
  try simp only [Act.put, gA, gS, gZ, sA, sZ, sS]
  refine tk 5 (.slice l ll cl) rfl (.inl ⟨by rfl, ?_⟩) ?_
  · intro w9 hSw
    try dsimp only at hSw
    have c0 : w9.cell? ⟨w.heap.size, 6, none⟩ = some (.slice l ll cl) := by rw [cell_of_row _ _ 6 _ _ _ hSw.2]; rfl
    go_simp
    all_goals try assumption
  try simp only [Act.put, gA, gS, gZ, sA, sZ, sS]
  refine tk 6 (.pointer (some ⟨w.heap.size, 7, none⟩)) rfl (.inl ⟨by rfl, ?_⟩) ?_
  · intro w9 hSw
    try dsimp only at hSw
    go_simp
    all_goals try decide
    all_goals try assumption
    all_goals try omega
  try simp only [Act.put, gA, gS, gZ, sA, sZ, sS]
  refine tk 7 (.slice h lh ch) rfl (.inl ⟨by rfl, ?_⟩) ?_
  · intro w9 hSw
    try dsimp only at hSw
    have c0 : w9.cell? ⟨w.heap.size, 7, none⟩ = some (.slice h lh ch) := by rw [cell_of_row _ _ 7 _ _ _ hSw.2]; rfl
    go_simp
    all_goals try assumption
  try simp only [Act.put, gA, gS, gZ, sA, sZ, sS]
  refine wpAnyH_ready (rs := [3]) (by kernel_rfl) (by simp) ?_
  refine AllReadyH.cons rfl (fun K' hK => ?_) AllReadyH.nil
  rw [if_pos (by rfl)]
  simp only [gA, gS, gZ]
  go_wp2_with fail
  refine (HF.out _ hHeld.1).mono ?_
  rintro e w3 ⟨a9, n9, c9, rfl, hq9, hbx⟩
  have HQ9 : Hid (SlOk w3 a9 n9 c9 (firstL t zd)) := hq9
  clear hq9
  try go_wp2_with fail
  refine hK.out _ _ (⟨Below.andThen hHeld.1 hbx, blk11 hbx hHeld.2⟩) (fun hHeld => ?_)
  clear hK K'
  try simp only [Act.put, gA, gS, gZ, sA, sZ, sS]
  refine wpAnyH_ready (rs := [8]) (by kernel_rfl) (by simp) ?_
  refine AllReadyH.cons rfl (fun K' hK => ?_) AllReadyH.nil
  rw [if_pos (by rfl)]
  simp only [gA, gS, gZ]
  go_wp2_with fail
  refine (HC.out _ a9 n9 c9 hHeld.1 HQ9.out).mono ?_
  rintro e w4 ⟨rfl, hbx⟩
  try go_wp2_with fail
  refine hK.out _ _ (⟨Below.andThen hHeld.1 hbx, blk11 hbx hHeld.2⟩) (fun hHeld => ?_)
  clear hK K'
  try simp only [Act.put, gA, gS, gZ, sA, sZ, sS]
  refine tk 9 (.bool false) rfl (.inl ⟨by rfl, ?_⟩) ?_
  · intro w9 hSw
    try dsimp only at hSw
    go_simp
    all_goals try decide
    all_goals try assumption
    all_goals try omega
  try simp only [Act.put, gA, gS, gZ, sA, sZ, sS]
  refine tk 10 (.bool false) rfl (.inl ⟨by rfl, ?_⟩) ?_
  · intro w9 hSw
    try dsimp only at hSw
    go_simp
    all_goals try decide
    all_goals try assumption
    all_goals try omega
  try simp only [Act.put, gA, gS, gZ, sA, sZ, sS]
  refine wpAnyH_done (by kernel_rfl) ?_ _
  go_wp2_with fail
  go_ret
  exact ⟨rfl, hHeld.1⟩

/-- May an entry be? -/
def mayB (nm : ByteArray) (t rt gr : Int) (zd zl zh : List Int) : Bool := Ty.Pl.kindN t != 0 && decide (rt ≤ 15) && decide (gr ≤ 16) && decide (nm.size ≤ 100) && boundB t zl && boundB t zh && Ty.chkN t (firstL t zd) zl zh == 0
theorem mayB_yes {nm : ByteArray} {t rt gr : Int} {zd zl zh : List Int} (h : mayB nm t rt gr zd zl zh = true) : Ty.Pl.kindN t ≠ 0 ∧ rt ≤ 15 ∧ gr ≤ 16 ∧ nm.size ≤ 100 ∧ boundB t zl = true ∧ boundB t zh = true ∧ Ty.chkN t (firstL t zd) zl zh = 0 := by
  simp only [mayB, Bool.and_eq_true, bne_iff_ne, decide_eq_true_eq, beq_iff_eq] at h
  obtain ⟨⟨⟨⟨⟨⟨h1, h2⟩, h3⟩, h4⟩, h5⟩, h6⟩, h7⟩ := h
  exact ⟨h1, h2, h3, h4, h5, h6, h7⟩
theorem mayBe_any (i s : Int) (nm : ByteArray) (t rt : Int) (d : Option Addr) (ld cd : Nat) (l : Option Addr) (ll cl : Nat) (h : Option Addr) (lh ch : Nat) (tg gr : Int) (zd zl zh : List Int) (w : World) (rd : SlOk w d ld cd zd) (rl : SlOk w l ll cl zl) (rh : SlOk w h lh ch zh) (hT : Ty.Tab64 w) :
    Calls Tryz.prog 35 #[.agg (enC i s nm t rt d ld cd l ll cl h lh ch tg gr)] w fun e w' => e = .returned (.bool (mayB nm t rt gr zd zl zh)) ∧ Below w.heap.size w w' := by
  by_cases h1 : Ty.Pl.kindN t = 0
  · rw [show mayB nm t rt gr zd zl zh = false by simp [mayB, h1]]
    exact mayBe_no1 i s nm t rt d ld cd l ll cl h lh ch tg gr w h1
  by_cases h2 : 15 < rt
  · rw [show mayB nm t rt gr zd zl zh = false by simp [mayB, show ¬ rt ≤ 15 by omega]]
    exact mayBe_no2 i s nm t rt d ld cd l ll cl h lh ch tg gr w h1 h2
  replace h2 : rt ≤ 15 := by omega
  by_cases h3 : 16 < gr
  · rw [show mayB nm t rt gr zd zl zh = false by simp [mayB, show ¬ gr ≤ 16 by omega]]
    exact mayBe_no3 i s nm t rt d ld cd l ll cl h lh ch tg gr w h1 h2 h3
  replace h3 : gr ≤ 16 := by omega
  by_cases h4 : 100 < nm.size
  · rw [show mayB nm t rt gr zd zl zh = false by simp [mayB, show ¬ nm.size ≤ 100 by omega]]
    exact mayBe_no4 i s nm t rt d ld cd l ll cl h lh ch tg gr w h1 h2 h3 h4
  replace h4 : nm.size ≤ 100 := by omega
  cases h5 : boundB t zl with
  | false =>
    rw [show mayB nm t rt gr zd zl zh = false by simp [mayB, h5]]
    exact mayBe_no5 i s nm t rt d ld cd l ll cl h lh ch tg gr zl w rl hT h1 h2 h3 h4 h5
  | true =>
  cases h6 : boundB t zh with
  | false =>
    rw [show mayB nm t rt gr zd zl zh = false by simp [mayB, h6]]
    exact mayBe_no6 i s nm t rt d ld cd l ll cl h lh ch tg gr zl zh w rl rh hT h1 h2 h3 h4 h5 h6
  | true =>
  by_cases h7 : Ty.chkN t (firstL t zd) zl zh = 0
  · rw [show mayB nm t rt gr zd zl zh = true by simp [mayB, h1, h2, h3, h4, h5, h6, h7]]
    exact mayBe_yes i s nm t rt d ld cd l ll cl h lh ch tg gr zd zl zh w rd rl rh hT h1 h2 h3 h4 h5 h6 h7
  · rw [show mayB nm t rt gr zd zl zh = false by simp [mayB, h7]]
    exact mayBe_chk i s nm t rt d ld cd l ll cl h lh ch tg gr zd zl zh w rd rl rh hT h1 h2 h3 h4 h5 h6 _ rfl h7
#print axioms mayBe_any
end Go.Proofs.YtajllkkbgpijiaaGreatDoor
