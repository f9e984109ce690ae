/-
  Entries as values; the walks of placeOf, atFirst, mayBe.
-/
import Derived.Test.YtajllkkbgpijiaaGreatDoorDa
import Derived.Test.YtajllkkbgpijiaaGreatDoorChkW
import Derived.Test.YtajllkkbgpijiaaGreatDoorDz
import Derived.Test.YtajllkkbgpijiaaGreatDoorTk9
namespace Go.Proofs.YtajllkkbgpijiaaGreatDoor
open Go.RowKit

/-- An entry's cells. -/
abbrev enC (i s : Int) (nm : ByteArray) (t rt : Int) (d : Option Addr) (ld cd : Nat) (l : Option Addr) (ll cl : Nat) (h : Option Addr) (lh ch : Nat) (tg gr : Int) : Array Value := #[.int .u16 i, .int .u8 s, .string nm, .int .u8 t, .int .u8 rt, .slice d ld cd, .slice l ll cl, .slice h lh ch, .int .u8 tg, .int .u8 gr]
/-- The cells of an entry with its value. -/
abbrev itC (i s : Int) (nm : ByteArray) (t rt : Int) (d : Option Addr) (ld cd : Nat) (l : Option Addr) (ll cl : Nat) (h : Option Addr) (lh ch : Nat) (tg gr : Int) (v : Option Addr) (lv cv : Nat) : Array Value := #[.int .u16 i, .int .u8 s, .string nm, .int .u8 t, .int .u8 rt, .slice d ld cd, .slice l ll cl, .slice h lh ch, .int .u8 tg, .int .u8 gr, .slice v lv cv]
theorem sizeE : (Tryz.prog.info? 52).map (·.size) = some 10 := by kernel_rfl
theorem aggE (w : World) : (isAgg 52).run Tryz.prog w = .ok true w := by kernel_rfl
theorem sizeI : (Tryz.prog.info? 95).map (·.size) = some 11 := by kernel_rfl
theorem aggI (w : World) : (isAgg 95).run Tryz.prog w = .ok true w := by kernel_rfl
theorem enC_one (i s : Int) (nm : ByteArray) (t rt : Int) (d : Option Addr) (ld cd : Nat) (l : Option Addr) (ll cl : Nat) (h : Option Addr) (lh ch : Nat) (tg gr : Int) : (enC i s nm t rt d ld cd l ll cl h lh ch tg gr).all (·.oneCell') = true := by simp [Value.oneCell']
theorem itC_one (i s : Int) (nm : ByteArray) (t rt : Int) (d : Option Addr) (ld cd : Nat) (l : Option Addr) (ll cl : Nat) (h : Option Addr) (lh ch : Nat) (tg gr : Int) (v : Option Addr) (lv cv : Nat) : (itC i s nm t rt d ld cd l ll cl h lh ch tg gr v lv cv).all (·.oneCell') = true := by simp [Value.oneCell']
theorem loadE (w : World) (B : Nat) (i s : Int) (nm : ByteArray) (t rt : Int) (d : Option Addr) (ld cd : Nat) (l : Option Addr) (ll cl : Nat) (h : Option Addr) (lh ch : Nat) (tg gr : Int) (T : TypeId) (hb : w.heap[B]? = some (.cells (enC i s nm t rt d ld cd l ll cl h lh ch tg gr) T (0, 0))) : (loadVar 52 ⟨B, 0, none⟩).run Tryz.prog w = .ok (.agg (enC i s nm t rt d ld cd l ll cl h lh ch tg gr)) w :=
  load_part 52 10 sizeE aggE w B 0 [.int .u16 i, .int .u8 s, .string nm, .int .u8 t, .int .u8 rt, .slice d ld cd, .slice l ll cl, .slice h lh ch, .int .u8 tg, .int .u8 gr] T hb (by simp)
theorem storeE (w : World) (B : Nat) (C : Array Value) (i s : Int) (nm : ByteArray) (t rt : Int) (d : Option Addr) (ld cd : Nat) (l : Option Addr) (ll cl : Nat) (h : Option Addr) (lh ch : Nat) (tg gr : Int) (T : TypeId) (hb : w.heap[B]? = some (.cells C T (0, 0))) (hC : C.size = 10) : (storeVar 52 ⟨B, 0, none⟩ (.agg (enC i s nm t rt d ld cd l ll cl h lh ch tg gr))).run Tryz.prog w = .ok () (w.setRow B (enC i s nm t rt d ld cd l ll cl h lh ch tg gr)) :=
  run_storeVar_row w B T 52 C (enC i s nm t rt d ld cd l ll cl h lh ch tg gr) hb sizeE hC (enC_one _ _ _ _ _ _ _ _ _ _ _ _ _ _ _ _)
theorem loadI (w : World) (B : Nat) (i s : Int) (nm : ByteArray) (t rt : Int) (d : Option Addr) (ld cd : Nat) (l : Option Addr) (ll cl : Nat) (h : Option Addr) (lh ch : Nat) (tg gr : Int) (v : Option Addr) (lv cv : Nat) (T : TypeId) (hb : w.heap[B]? = some (.cells (itC i s nm t rt d ld cd l ll cl h lh ch tg gr v lv cv) T (0, 0))) : (loadVar 95 ⟨B, 0, none⟩).run Tryz.prog w = .ok (.agg (itC i s nm t rt d ld cd l ll cl h lh ch tg gr v lv cv)) w :=
  load_part 95 11 sizeI aggI w B 0 [.int .u16 i, .int .u8 s, .string nm, .int .u8 t, .int .u8 rt, .slice d ld cd, .slice l ll cl, .slice h lh ch, .int .u8 tg, .int .u8 gr, .slice v lv cv] T hb (by simp)
theorem storeI (w : World) (B : Nat) (C : Array Value) (i s : Int) (nm : ByteArray) (t rt : Int) (d : Option Addr) (ld cd : Nat) (l : Option Addr) (ll cl : Nat) (h : Option Addr) (lh ch : Nat) (tg gr : Int) (v : Option Addr) (lv cv : Nat) (T : TypeId) (hb : w.heap[B]? = some (.cells C T (0, 0))) (hC : C.size = 11) : (storeVar 95 ⟨B, 0, none⟩ (.agg (itC i s nm t rt d ld cd l ll cl h lh ch tg gr v lv cv))).run Tryz.prog w = .ok () (w.setRow B (itC i s nm t rt d ld cd l ll cl h lh ch tg gr v lv cv)) :=
  run_storeVar_row w B T 95 C (itC i s nm t rt d ld cd l ll cl h lh ch tg gr v lv cv) hb sizeI hC (itC_one _ _ _ _ _ _ _ _ _ _ _ _ _ _ _ _ _ _ _)
/-- Bytes of a slice, as the checks want them. -/
structure SlOk (w : World) (a : Option Addr) (len cap : Nat) (zs : List Int) : Prop where
  row : Row w a len zs
  le : len ≤ cap
  max : cap ≤ maxLen
theorem SlOk.next {w w' : World} {a : Option Addr} {len cap : Nat} {zs : List Int} (h : SlOk w a len cap zs) (hb : Below w.heap.size w w') : SlOk w' a len cap zs := ⟨h.row.next hb, h.le, h.max⟩
theorem slOk_nil (w : World) : SlOk w none 0 0 [] := ⟨row_nil w, Nat.le_refl _, by decide⟩
theorem Told.sl {w w' : World} {a : Option Addr} {len cap : Nat} {zs : List Int} (h : Told w w' a len cap zs) : SlOk w' a len cap zs := ⟨h.row, h.le, h.max⟩
theorem Row.ty {w : World} {a : Option Addr} {len : Nat} {zs : List Int} (h : Row w a len zs) : Ty.Row w a len zs := ⟨h.size, h.oct, h.at_⟩
theorem Row.un {w : World} {a : Option Addr} {len : Nat} {zs : List Int} (h : Ty.Row w a len zs) : Row w a len zs := ⟨h.size, h.oct, h.at_⟩
theorem tab_next {w w' : World} (h : Ty.Tab64 w) (hb : Below w.heap.size w w') : Ty.Tab64 w' := h.below hb h.old
theorem check8 (t : Int) (a lo hi : Option Addr) (la ca ll cl lh ch : Nat) (za zl zh : List Int) (w : World) (ra : SlOk w a la ca za) (rl : SlOk w lo ll cl zl) (rh : SlOk w hi lh ch zh) (hT : Ty.Tab64 w) :
    Calls Tryz.prog 57 #[.int .u8 t, .slice a la ca, .slice lo ll cl, .slice hi lh ch] w fun e w' => e = .returned (.int .u32 (Ty.chkN t za zl zh)) ∧ Below w.heap.size w w' :=
  Ty.check_any t a lo hi la ca ll cl lh ch za zl zh w ra.row.ty rl.row.ty rh.row.ty hT ra.le ra.max rl.le rl.max rh.le rh.max
/-- An entry's value at first. -/
def firstL (t : Int) (zd : List Int) : List Int := if 0 < zd.length then zd else Ty.zeros (Ty.Pl.sizeN t).toNat
theorem zero8 (t : Int) (w : World) : Calls Tryz.prog 59 #[.int .u8 t] w fun e w' => ∃ a n c, e = .returned (.slice a n c) ∧ SlOk w' a n c (Ty.zeros (Ty.Pl.sizeN t).toNat) ∧ Below w.heap.size w w' := by
  have hb := Ty.Pl.size_bd t
  obtain ⟨n, hn⟩ : ∃ n : Nat, Ty.Pl.sizeN t = n := ⟨(Ty.Pl.sizeN t).toNat, by omega⟩
  rcases Nat.eq_zero_or_pos n with h0 | hp
  · subst h0
    refine (Ty.zero_none t w (by simpa using hn)).mono ?_
    rintro e w' ⟨rfl, rfl⟩
    rw [hn]
    exact ⟨none, 0, 0, rfl, slOk_nil _, Below.refl _ _⟩
  · refine (Ty.zero_some t n w hn hp).mono ?_
    rintro e w' ⟨rfl, rfl⟩
    rw [hn]
    exact ⟨_, n, n, rfl, ⟨Row.un (Ty.row_made w n _), Nat.le_refl _, by unfold maxLen; omega⟩, Below.al (Below.refl _ _) _⟩

set_option linter.unusedSimpArgs false in
set_option maxHeartbeats 4000000 in
set_option maxRecDepth 100000 in
theorem placeOf_any (i s : Int) (nm : ByteArray) (t rt : Int) (d : Option Addr) (ld cd : Nat) (l : Option Addr) (ll cl : Nat) (h : Option Addr) (lh ch : Nat) (tg gr : Int) (w : World) : Calls Tryz.prog 36 #[.agg (enC i s nm t rt d ld cd l ll cl h lh ch tg gr)] w fun e w' => e = .returned (plV i s) ∧ Below w.heap.size w w' := by
  go_enter Tryz.func36, Tryz.ntmps36
  go_wp2_with fail
  exact bodyPost_ret (v := plV i s) (by simp [results, Tryz.results36, go_sem]) rfl ⟨rfl, (by repeat (first | exact Below.refl _ _ | apply Below.drew | apply Below.al))⟩

set_option linter.unusedSimpArgs false in
set_option maxHeartbeats 4000000 in
set_option maxRecDepth 100000 in
theorem atFirst_any (i s : Int) (nm : ByteArray) (t rt : Int) (d : Option Addr) (ld cd : Nat) (l : Option Addr) (ll cl : Nat) (h : Option Addr) (lh ch : Nat) (tg gr : Int) (zd : List Int) (w : World) (rd : SlOk w d ld cd zd) : Calls Tryz.prog 39 #[.agg (enC i s nm t rt d ld cd l ll cl h lh ch tg gr)] w fun e w' => ∃ a n c, e = .returned (.slice a n c) ∧ SlOk w' a n c (firstL t zd) ∧ Below w.heap.size w w' := by
  have hs := rd.row.size
  have RD : Hid (SlOk w d ld cd zd) := rd
  clear rd
  rcases Nat.eq_zero_or_pos ld with h0 | hp
  · subst h0
    have HF : Hid (firstL t zd = Ty.zeros (Ty.Pl.sizeN t).toNat) := if_neg (by omega)
    clear hs
    rw [HF.out]
    go_enter Tryz.func39, Tryz.ntmps39
    go_wp2_with fail
    refine (zero8 t _).mono ?_
    rintro e w1 ⟨a, n, c, rfl, hq, hb⟩
    have HQ : Hid (SlOk w1 a n c (Ty.zeros (Ty.Pl.sizeN t).toNat)) := hq
    have HB : Hid (Below w.heap.size w w1) := Below.andThen (by repeat (first | exact Below.refl _ _ | apply Below.drew | apply Below.al)) hb
    clear hq hb
    go_wp2_with fail
    go_ret
    exact ⟨a, n, c, rfl, HQ.out, HB.out⟩
  · have HF : Hid (firstL t zd = zd) := if_pos (by omega)
    have hp' : 0 < (ld : Int) := by omega
    clear hs
    rw [HF.out]
    go_enter Tryz.func39, Tryz.ntmps39
    go_wp2_with fail
    go_ret
    exact ⟨d, ld, cd, rfl, RD.out.next (by repeat (first | exact Below.refl _ _ | apply Below.drew | apply Below.al)), (by repeat (first | exact Below.refl _ _ | apply Below.drew | apply Below.al))⟩

/-- May a bound be? -/
def boundB (t : Int) (zs : List Int) : Bool := zs.length == 0 || Ty.chkN t zs [] [] == 0
set_option linter.unusedSimpArgs false in
set_option maxHeartbeats 4000000 in
set_option maxRecDepth 100000 in
theorem mayBound_any (E : Nat) (i s : Int) (nm : ByteArray) (t rt : Int) (d : Option Addr) (ld cd : Nat) (l : Option Addr) (ll cl : Nat) (h : Option Addr) (lh ch : Nat) (tg gr : Int) (b : Option Addr) (lb cb : Nat) (zb : List Int) (w : World) (hE : w.heap[E]? = some (.cells (enC i s nm t rt d ld cd l ll cl h lh ch tg gr) 52 (0, 0))) (rb : SlOk w b lb cb zb) (hT : Ty.Tab64 w) (hB : boundB t zb = true) :
    Calls Tryz.prog 56 #[.slice b lb cb, .pointer (some ⟨E, 0, none⟩)] w fun e w' => e = .returned (.bool true) ∧ Below w.heap.size w w' := by
  have hs := rb.row.size
  have c3 : w.cell? ⟨E, 3, none⟩ = some (.int .u8 t) := by rw [cell_of_row w _ 3 _ _ _ hE]; rfl
  clear hE
  rcases Nat.eq_zero_or_pos lb with h0 | hp
  · subst h0
    clear hs
    go_enter Tryz.func56, Tryz.ntmps56
    go_wp2_with fail
    go_ret
    exact ⟨rfl, Below.refl _ _⟩
  · have hk : Ty.chkN t zb [] [] = 0 := by
      simp [boundB] at hB
      rcases hB with h | h
      · rw [h] at hs; simp at hs; omega
      · exact h
    have HC : Hid (Calls Tryz.prog 57 #[.int .u8 t, .slice b lb cb, .slice none 0 0, .slice none 0 0] w fun e w' => e = .returned (.int .u32 0) ∧ Below w.heap.size w w') := by
      have := check8 t b none none lb cb 0 0 0 0 zb [] [] w rb (slOk_nil _) (slOk_nil _) hT
      rw [hk] at this
      exact this
    have hp' : ((lb : Int) == 0) = false := by simp; omega
    clear hs hk rb
    go_enter Tryz.func56, Tryz.ntmps56
    go_wp2_with fail
    refine HC.out.mono ?_
    rintro e w1 ⟨rfl, hb⟩
    go_wp2_with fail
    go_ret
    exact ⟨rfl, hb⟩

set_option linter.unusedSimpArgs false in
set_option maxHeartbeats 4000000 in
set_option maxRecDepth 100000 in
theorem mayBe_yes (i s : Int) (nm : ByteArray) (t rt : Int) (d : Option Addr) (ld cd : Nat) (l : Option Addr) (ll cl : Nat) (h : Option Addr) (lh ch : Nat) (tg gr : Int) (zd zl zh : List Int) (w : World) (rd : SlOk w d ld cd zd) (rl : SlOk w l ll cl zl) (rh : SlOk w h lh ch zh) (hT : Ty.Tab64 w) (hk : Ty.Pl.kindN t ≠ 0) (hr : rt ≤ 15) (hg : gr ≤ 16) (hn : nm.size ≤ 100) (hL : boundB t zl = true) (hH : boundB t zh = true) (hc : Ty.chkN t (firstL t zd) zl zh = 0) :
    Calls Tryz.prog 35 #[.agg (enC i s nm t rt d ld cd l ll cl h lh ch tg gr)] w fun e w' => e = .returned (.bool true) ∧ Below w.heap.size w w' := by
  have hmf : ∀ (fn : Fn) (first cap : Array Value) (w : World), (Instr.makeFunc fn first cap).run Tryz.prog w = .ok (.func fn first cap) w := fun _ _ _ _ => rfl
  have HR : Hid (∀ W, Calls Tryz.prog 58 #[.int .u8 t] W fun e w' => e = .returned (.bool true) ∧ w' = W) := fun W => by
    have := Ty.right_any t W
    rw [show (Ty.Pl.kindN t != 0) = true by simpa using hk] at this
    exact this
  have HM1 : Hid (∀ W, Below w.heap.size w W → W.heap[w.heap.size]? = some (.cells (enC i s nm t rt d ld cd l ll cl h lh ch tg gr) 52 (0, 0)) → Calls Tryz.prog 56 #[.slice l ll cl, .pointer (some ⟨w.heap.size, 0, none⟩)] W fun e w' => e = .returned (.bool true) ∧ Below W.heap.size W w') := fun W hb hx => mayBound_any _ i s nm t rt d ld cd l ll cl h lh ch tg gr l ll cl zl W hx (rl.next hb) (tab_next hT hb) hL
  have HM2 : Hid (∀ W, Below w.heap.size w W → W.heap[w.heap.size]? = some (.cells (enC i s nm t rt d ld cd l ll cl h lh ch tg gr) 52 (0, 0)) → Calls Tryz.prog 56 #[.slice h lh ch, .pointer (some ⟨w.heap.size, 0, none⟩)] W fun e w' => e = .returned (.bool true) ∧ Below W.heap.size W w') := fun W hb hx => mayBound_any _ i s nm t rt d ld cd l ll cl h lh ch tg gr h lh ch zh W hx (rh.next hb) (tab_next hT hb) hH
  have HF : Hid (∀ W, Below w.heap.size w W → Calls Tryz.prog 39 #[.agg (enC i s nm t rt d ld cd l ll cl h lh ch tg gr)] W fun e w' => ∃ a n c, e = .returned (.slice a n c) ∧ SlOk w' a n c (firstL t zd) ∧ Below W.heap.size W w') := fun W hb => atFirst_any i s nm t rt d ld cd l ll cl h lh ch tg gr zd W (rd.next hb)
  have HC : Hid (∀ W a n c, Below w.heap.size w W → SlOk W a n c (firstL t zd) → Calls Tryz.prog 57 #[.int .u8 t, .slice a n c, .slice l ll cl, .slice h lh ch] W fun e w' => e = .returned (.int .u32 0) ∧ Below W.heap.size W w') := fun W a n c hb ha => by
    have := check8 t a l h n c ll cl lh ch (firstL t zd) zl zh W ha (rl.next hb) (rh.next hb) (tab_next hT hb)
    rw [hc] at this
    exact this
  have b1 : ¬ 15 < rt := by omega
  have b2 : ¬ 16 < gr := by omega
  have b3 : ¬ (100 : Int) < (nm.size : Int) := by omega
  clear rd rl rh hT hk hL hH hc hr hg hn
  go_enter Tryz.func35, Tryz.ntmps35
  go_wp2_with fail
  refine (HR.out _).mono ?_
  rintro e w9 ⟨rfl, rfl⟩
  go_wp2_with fail
  refine (HM1.out _ (by repeat (first | exact Below.refl _ _ | apply Below.drew | apply Below.al)) (at11 _ _ _ rfl)).mono ?_
  rintro e w1 ⟨rfl, hb⟩
  have B1 : Hid (Below w.heap.size w w1) := Below.andThen (by repeat (first | exact Below.refl _ _ | apply Below.drew | apply Below.al)) hb
  have X1 : Hid (w1.heap[w.heap.size]? = some (.cells (enC i s nm t rt d ld cd l ll cl h lh ch tg gr) 52 (0, 0))) := blk11 hb (at11 _ _ _ rfl)
  have c7 : w1.cell? ⟨w.heap.size, 7, none⟩ = some (.slice h lh ch) := by rw [cell_of_row _ _ 7 _ _ _ X1.out]; rfl
  clear hb
  go_wp2_with fail
  refine (HM2.out _ B1.out X1.out).mono ?_
  rintro e w2 ⟨rfl, hb⟩
  have B2 : Hid (Below w.heap.size w w2) := Below.andThen B1.out hb
  have X2 : Hid (w2.heap[w.heap.size]? = some (.cells (enC i s nm t rt d ld cd l ll cl h lh ch tg gr) 52 (0, 0))) := blk11 hb X1.out
  clear hb c7
  go_wp2_with fail
  refine wp_region_held_drew (S := fun x => Below w.heap.size w x ∧ x.heap[w.heap.size]? = some (.cells (enC i s nm t rt d ld cd l ll cl h lh ch tg gr) 52 (0, 0))) (by kernel_rfl) (⟨Below.drew B2.out, X2.out⟩) (fun hHeld => ?_)
  refine tk 0 (.pointer (some ⟨w.heap.size, 3, none⟩)) rfl (.inl ⟨by rfl, ?_⟩) ?_
  · intro w9 hSw
    try dsimp only at hSw
    go_simp
    all_goals try decide
    all_goals try assumption
    all_goals try omega
  try simp only [Act.put, gA, gS, gZ, sA, sZ, sS]
  refine tk 1 (.int .u8 t) rfl (.inl ⟨by rfl, ?_⟩) ?_
  · intro w9 hSw
    try dsimp only at hSw
    have c0 : w9.cell? ⟨w.heap.size, 3, none⟩ = some (.int .u8 t) := by rw [cell_of_row _ _ 3 _ _ _ hSw.2]; rfl
    go_simp
    all_goals try assumption
  try simp only [Act.put, gA, gS, gZ, sA, sZ, sS]
  refine tk 2 (.agg (enC i s nm t rt d ld cd l ll cl h lh ch tg gr)) rfl (.inl ⟨by rfl, ?_⟩) ?_
  · intro w9 hSw
    try dsimp only at hSw
    exact ex_load11 52 (.tmp 1) rfl _ _ rfl (loadE _ _ i s nm t rt d ld cd l ll cl h lh ch tg gr _ hSw.2)
  try simp only [Act.put, gA, gS, gZ, sA, sZ, sS]
  refine tk 4 (.pointer (some ⟨w.heap.size, 6, none⟩)) rfl (.inl ⟨by rfl, ?_⟩) ?_
  · intro w9 hSw
    try dsimp only at hSw
    go_simp
    all_goals try decide
    all_goals try assumption
    all_goals try omega
  try simp only [Act.put, gA, gS, gZ, sA, sZ, sS]
  refine tk 5 (.slice l ll cl) rfl (.inl ⟨by rfl, ?_⟩) ?_
  · intro w9 hSw
    try dsimp only at hSw
    have c0 : w9.cell? ⟨w.heap.size, 6, none⟩ = some (.slice l ll cl) := by rw [cell_of_row _ _ 6 _ _ _ hSw.2]; rfl
    go_simp
    all_goals try assumption
  try simp only [Act.put, gA, gS, gZ, sA, sZ, sS]
  refine tk 6 (.pointer (some ⟨w.heap.size, 7, none⟩)) rfl (.inl ⟨by rfl, ?_⟩) ?_
  · intro w9 hSw
    try dsimp only at hSw
    go_simp
    all_goals try decide
    all_goals try assumption
    all_goals try omega
  try simp only [Act.put, gA, gS, gZ, sA, sZ, sS]
  refine tk 7 (.slice h lh ch) rfl (.inl ⟨by rfl, ?_⟩) ?_
  · intro w9 hSw
    try dsimp only at hSw
    have c0 : w9.cell? ⟨w.heap.size, 7, none⟩ = some (.slice h lh ch) := by rw [cell_of_row _ _ 7 _ _ _ hSw.2]; rfl
    go_simp
    all_goals try assumption
  try simp only [Act.put, gA, gS, gZ, sA, sZ, sS]
  refine wpAnyH_ready (rs := [3]) (by kernel_rfl) (by simp) ?_
  refine AllReadyH.cons rfl (fun K' hK => ?_) AllReadyH.nil
  rw [if_pos (by rfl)]
  simp only [gA, gS, gZ]
  go_wp2_with fail
  refine (HF.out _ hHeld.1).mono ?_
  rintro e w3 ⟨a9, n9, c9, rfl, hq9, hbx⟩
  have HQ9 : Hid (SlOk w3 a9 n9 c9 (firstL t zd)) := hq9
  clear hq9
  try go_wp2_with fail
  refine hK.out _ _ (⟨Below.andThen hHeld.1 hbx, blk11 hbx hHeld.2⟩) (fun hHeld => ?_)
  clear hK K'
  try simp only [Act.put, gA, gS, gZ, sA, sZ, sS]
  refine wpAnyH_ready (rs := [8]) (by kernel_rfl) (by simp) ?_
  refine AllReadyH.cons rfl (fun K' hK => ?_) AllReadyH.nil
  rw [if_pos (by rfl)]
  simp only [gA, gS, gZ]
  go_wp2_with fail
  refine (HC.out _ a9 n9 c9 hHeld.1 HQ9.out).mono ?_
  rintro e w4 ⟨rfl, hbx⟩
  try go_wp2_with fail
  refine hK.out _ _ (⟨Below.andThen hHeld.1 hbx, blk11 hbx hHeld.2⟩) (fun hHeld => ?_)
  clear hK K'
  try simp only [Act.put, gA, gS, gZ, sA, sZ, sS]
  refine tk 9 (.bool true) rfl (.inl ⟨by rfl, ?_⟩) ?_
  · intro w9 hSw
    try dsimp only at hSw
    go_simp
    all_goals try decide
    all_goals try assumption
    all_goals try omega
  try simp only [Act.put, gA, gS, gZ, sA, sZ, sS]
  refine tk 10 (.bool true) rfl (.inl ⟨by rfl, ?_⟩) ?_
  · intro w9 hSw
    try dsimp only at hSw
    go_simp
    all_goals try decide
    all_goals try assumption
    all_goals try omega
  try simp only [Act.put, gA, gS, gZ, sA, sZ, sS]
  refine wpAnyH_done (by kernel_rfl) ?_ _
  go_wp2_with fail
  go_ret
  exact ⟨rfl, hHeld.1⟩
end Go.Proofs.YtajllkkbgpijiaaGreatDoor
