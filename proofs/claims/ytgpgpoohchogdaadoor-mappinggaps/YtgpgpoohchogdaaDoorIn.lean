/-
  Unpack of any Maps that came in.
  Unpack of any Maps that may be, of any dictionary; gaps.
  Maps that came in, put behind a gap; what Unpack answers, in one form.
  MappingGaps.
  Proved: MappingGaps returns true of any entries, any Maps, any bytes and any kind of gap, where the library's table holds what the program's text lays (the tied card).
-/
import Derived.Test.YtgpgpoohchogdaaDoorIh
import Derived.Test.YtgpgpoohchogdaaDoorGi
import Derived.Test.YtgpgpoohchogdaaDoorTk9
import Derived.Deep.AppendSrc
import Derived.Deep.Upon
import Derived.Test.YtgpgpoohchogdaaDoorIk
import Derived.Test.YtgpgpoohchogdaaDoorLq
import Derived.WalkKit
import Derived.ProofKit
import Derived.OpenShut
import Derived.Deep.DeepHandedRow
import Derived.MakeChecks
import Derived.Stop.LaidErr
import Derived.ChangeOld
import Derived.ShutString
namespace Go.Proofs.YtgpgpoohchogdaaDoor
open Go.RowKit

/-- Is a Map a gap? -/
def gpB (x : Mq) : Bool := gapB x.i x.s (x.b : Int)
/-- The code of values that are refused. -/
def unC (mc : Mq → List Int → Int) (zs : List Int) : List Mq → Nat → Int
  | [], _ => 0
  | x :: l, n => if gpB x = true then unC mc zs l (n + x.b) else if mc x (tkB zs n x.b) ≠ 0 then mc x (tkB zs n x.b) else unC mc zs l (n + x.b)
/-- The values that are unpacked. -/
def unV (zs : List Int) : List Mq → Nat → List (Int × Int × List Int)
  | [], _ => []
  | x :: l, n => if gpB x = true then unV zs l (n + x.b) else (x.i, x.s, tkB zs n x.b) :: unV zs l (n + x.b)
/-- Values in memory. -/
def Vs (W : World) (base : Nat) (us : List Vq) (rs : List (Int × Int × List Int)) : Prop := us.length = rs.length ∧ ∀ (j : Nat) (r : Int × Int × List Int), rs[j]? = some r → ∃ g, us[j]? = some ⟨r.1, r.2.1, g, r.2.2.length⟩ ∧ base ≤ g ∧ W.heap[g]? = some (.cells (r.2.2.map (Value.int .u8)).toArray 5 (0, 0))
theorem vs_nil (W : World) (base : Nat) : Vs W base [] [] := ⟨rfl, fun j r h => by simp at h⟩
theorem Vs.mv {W W' : World} {base : Nat} {us : List Vq} {rs : List (Int × Int × List Int)} (h : Vs W base us rs) (hk : ∀ (g : Nat) (C : Array Value), W.heap[g]? = some (.cells C 5 (0, 0)) → W'.heap[g]? = some (.cells C 5 (0, 0))) : Vs W' base us rs := ⟨h.1, fun j r hr => by
  obtain ⟨g, h1, h2, h3⟩ := h.2 j r hr
  exact ⟨g, h1, h2, hk _ _ h3⟩⟩
theorem Vs.app {W : World} {base : Nat} {us : List Vq} {rs : List (Int × Int × List Int)} (h : Vs W base us rs) {i s : Int} {zb : List Int} {g n : Nat} (hn : zb.length = n) (hg : base ≤ g) (hh : W.heap[g]? = some (.cells (zb.map (Value.int .u8)).toArray 5 (0, 0))) : Vs W base (us ++ [⟨i, s, g, n⟩]) (rs ++ [(i, s, zb)]) := by
  refine ⟨by simp [h.1], fun j r hr => ?_⟩
  have hl := h.1
  rcases Nat.lt_or_ge j rs.length with hj | hj
  · rw [List.getElem?_append_left hj] at hr
    obtain ⟨g', h1, h2, h3⟩ := h.2 j r hr
    exact ⟨g', by rw [List.getElem?_append_left (by omega)]; exact h1, h2, h3⟩
  · rw [List.getElem?_append_right hj] at hr
    have h0 : j - rs.length = 0 := by
      have := (List.getElem?_eq_some_iff.1 hr).1
      simp at this
      omega
    rw [h0] at hr
    simp at hr
    subst hr
    exact ⟨g, by rw [List.getElem?_append_right (by omega), hl, h0]; simp [hn], hg, hh⟩
/-- What Unpack answers. -/
def UPost (w : World) (RES : Int) (ROWS : List (Int × Int × List Int)) (e : Ending) (w' : World) : Prop := ((RES ≠ 0 ∧ e = .returned (.tuple #[.slice none 0 0, .int .u32 RES])) ∨ (RES = 0 ∧ ∃ v us, e = .returned (.tuple #[v, .int .u32 0]) ∧ IsV w' w.heap.size v us ∧ Vs w' w.heap.size us ROWS)) ∧ Below w.heap.size w w'
theorem tkB_oct {zs : List Int} (hz : Oct zs) (nx n : Nat) : Oct (tkB zs nx n) := (layB_tb zs hz nx n 0 (List.replicate ((n + 7) / 8) 0) (fun y hy => by have := (List.mem_replicate.1 hy).2; subst this; decide) (by simp; omega)).1
set_option linter.unusedSimpArgs false in
set_option maxHeartbeats 4000000 in
set_option maxRecDepth 100000 in
theorem may_code (p m : Nat) (cg : Int) (lst : Mp) (i s : Int) (nm : ByteArray) (t rt : Int) (d : Option Addr) (ld cd : Nat) (l : Option Addr) (ll cl : Nat) (h : Option Addr) (lh ch : Nat) (tg gr : Int) (v : Option Addr) (lv cv : Nat) (b : Option Addr) (lb cb : Nat) (zb zl zh : List Int) (w : World) (hp : w.heap[p]? = some (.cells #[.map (some m), .int .i64 cg] 61 (0, 0))) (hm : IsM w m lst) (hl : lookP lst i s = some (.agg (itC i s nm t rt d ld cd l ll cl h lh ch tg gr v lv cv))) (rb : SlOk w b lb cb zb) (rl : SlOk w l ll cl zl) (rh : SlOk w h lh ch zh) (hT : Ty.Tab64 w)
    (hr : (bits .and .u8 rt 2 != 0) = true) (c : Int) (hc : Ty.chkN t zb zl zh = c) :
    Calls Tryd.prog 15 #[.pointer (some ⟨p, 0, none⟩), plV i s, .slice b lb cb] w fun e w' => ∃ g, e = .returned (.tuple #[.int .u8 g, .int .u32 c]) ∧ Below w.heap.size w w' := by
  have HF : Hid (∀ W, Below w.heap.size w W → Calls Tryd.prog 30 #[.pointer (some ⟨p, 0, none⟩), plV i s] W fun e w' => e = .returned (.tuple #[.agg (itC i s nm t rt d ld cd l ll cl h lh ch tg gr v lv cv), .int .u32 0]) ∧ Below W.heap.size W w') := fun W hb => find_at p m cg lst i s nm t rt d ld cd l ll cl h lh ch tg gr v lv cv W (blk11 hb hp) (hm.next hb) hl
  have HH : Hid (∀ W, Calls Tryd.prog 31 #[.agg (itC i s nm t rt d ld cd l ll cl h lh ch tg gr v lv cv), .int .u8 2] W fun e w' => e = .returned (.bool true) ∧ Below W.heap.size W w') := fun W => by
    have := has_any i s nm t rt d ld cd l ll cl h lh ch tg gr v lv cv 2 W
    rw [hr] at this
    exact this
  have HC : Hid (∀ W, Below w.heap.size w W → Calls Tryd.prog 32 #[.agg (itC i s nm t rt d ld cd l ll cl h lh ch tg gr v lv cv), .slice b lb cb] W fun e w' => e = .returned (.int .u32 c) ∧ Below W.heap.size W w') := fun W hb => by
    have := icheck_any i s nm t rt d ld cd l ll cl h lh ch tg gr v lv cv b lb cb zb zl zh W (rb.next hb) (rl.next hb) (rh.next hb) (tab_next hT hb)
    rw [hc] at this
    exact this
  clear hp hm hl rb rl rh hT hr hc
  go_enter Tryd.func15, Tryd.ntmps15
  go_wp2_with fail
  refine (HF.out _ (by repeat (first | exact Below.refl _ _ | apply Below.drew | apply Below.al))).mono ?_
  rintro e w1 ⟨rfl, hb⟩
  have B1 : Hid (Below w.heap.size w w1) := Below.andThen (by repeat (first | exact Below.refl _ _ | apply Below.drew | apply Below.al)) hb
  clear hb
  go_wp2_with fail
  refine (HH.out _).mono ?_
  rintro e w2 ⟨rfl, hb⟩
  have B2 : Hid (Below w.heap.size w w2) := Below.andThen (Below.al B1.out _) hb
  have X2 : Hid (w2.heap[w1.heap.size]? = some (.cells (itC i s nm t rt d ld cd l ll cl h lh ch tg gr v lv cv) 65 (0, 0))) := blk11 hb (at11 _ _ _ rfl)
  have l2 := lt_of_heap X2.out
  clear hb
  go_wp2_with (refine wpList_load_by rfl 65 _ rfl ⟨w1.heap.size, 0, none⟩ _ rfl (loadI _ _ i s nm t rt d ld cd l ll cl h lh ch tg gr v lv cv _ X2.out) ?_)
  refine (HC.out _ B2.out).mono ?_
  rintro e w3 ⟨rfl, hb⟩
  have B3 : Hid (Below w.heap.size w w3) := Below.andThen B2.out hb
  have X3 : Hid (w3.heap[w1.heap.size]? = some (.cells (itC i s nm t rt d ld cd l ll cl h lh ch tg gr v lv cv) 65 (0, 0))) := blk11 hb X2.out
  have c8 : w3.cell? ⟨w1.heap.size, 8, none⟩ = some (.int .u8 tg) := by rw [cell_of_row _ _ 8 _ _ _ X3.out]; rfl
  clear hb
  by_cases hc0 : c = 0
  · subst hc0
    go_wp2_with fail
    go_ret2
    exact ⟨_, rfl, B3.out⟩
  · go_wp2_with fail
    go_ret2
    exact ⟨_, rfl, B3.out⟩

set_option linter.unusedSimpArgs false in
set_option maxHeartbeats 4000000 in
set_option maxRecDepth 100000 in
theorem unpack_O (p : Nat) (ad : Option Addr) (gm off N cap : Nat) (ms : List Mq) (mc : Mq → List Int → Int) (a : Option Addr) (len capb : Nat) (zs : List Int) (w : World) (hN : ms.length = N) (had : 0 < N → ad = some ⟨gm, off, none⟩) (h64 : N ≤ 64) (hM : MsO w gm off ms) (hI : ∀ x ∈ ms, 0 ≤ x.i ∧ x.i < 65536) (hC : ∀ W, Below w.heap.size w W → Calls Tryd.prog 8 #[.pointer (some ⟨p, 0, none⟩), .slice ad N cap, .bool false] W fun e w' => e = .returned (.int .u32 0) ∧ Below W.heap.size W w') (hs : sumB ms N ≤ 64) (hr : Row w a len zs) (hlen : (sumB ms N + 7) / 8 ≤ len) (hlen2 : len ≤ 1000)
    (HMay : ∀ W, Below w.heap.size w W → ∀ x ∈ ms, gpB x = false → ∀ zb g, zb.length = (x.b + 7) / 8 → Oct zb → W.heap[g]? = some (.cells (zb.map (Value.int .u8)).toArray 5 (0, 0)) → Calls Tryd.prog 15 #[.pointer (some ⟨p, 0, none⟩), plV x.i x.s, .slice (some ⟨g, 0, none⟩) ((x.b + 7) / 8) ((x.b + 7) / 8)] W fun e w' => ∃ tg, e = .returned (.tuple #[.int .u8 tg, .int .u32 (mc x zb)]) ∧ Below W.heap.size W w') :
    Calls Tryd.prog 9 #[.pointer (some ⟨p, 0, none⟩), .slice ad N cap, .slice a len capb] w fun e w' => UPost w (unC mc zs ms 0) (unV zs ms 0) e w' := by
  obtain ⟨R, hR⟩ : ∃ R, Hid (R = (sumB ms N + 7) / 8) := ⟨_, rfl⟩
  have HC : Hid (∀ W, Below w.heap.size w W → Calls Tryd.prog 8 #[.pointer (some ⟨p, 0, none⟩), .slice ad N cap, .bool false] W fun e w' => e = .returned (.int .u32 0) ∧ Below W.heap.size W w') := hC
  have HS : Hid (∀ W, Below w.heap.size w W → Calls Tryd.prog 12 #[.slice ad N cap] W fun e w' => e = .returned (.int .i64 (R : Int)) ∧ Below W.heap.size W w') := fun W hb => by rw [hR.out]; exact size_O ad gm off N cap had ms W hN h64 (hM.next hb) hs
  have HI : Hid (∀ x ∈ ms, 0 ≤ x.i ∧ x.i < 65536) := hI
  have HY : Hid (∀ W, Below w.heap.size w W → ∀ x ∈ ms, gpB x = false → ∀ zb g, zb.length = (x.b + 7) / 8 → Oct zb → W.heap[g]? = some (.cells (zb.map (Value.int .u8)).toArray 5 (0, 0)) → Calls Tryd.prog 15 #[.pointer (some ⟨p, 0, none⟩), plV x.i x.s, .slice (some ⟨g, 0, none⟩) ((x.b + 7) / 8) ((x.b + 7) / 8)] W fun e w' => ∃ tg, e = .returned (.tuple #[.int .u8 tg, .int .u32 (mc x zb)]) ∧ Below W.heap.size W w') := HMay
  have HAD : Hid (0 < N → ad = some ⟨gm, off, none⟩) := had
  obtain ⟨RES, hRES⟩ : ∃ RES, Hid (RES = unC mc zs ms 0) := ⟨_, rfl⟩
  obtain ⟨ROWS, hROWS⟩ : ∃ ROWS, Hid (ROWS = unV zs ms 0) := ⟨_, rfl⟩
  rw [← hRES.out, ← hROWS.out]
  have HM : Hid (MsO w gm off ms) := hM
  have HW : Hid (Row w a len zs) := hr
  have hRl : R ≤ len := by have := hR.out; omega
  clear hM hr HMay hI hC had
  go_enter Tryd.func9, Tryd.ntmps9
  go_wp2_with fail
  refine (HC.out _ (by repeat (first | exact Below.refl _ _ | apply Below.drew | apply Below.al))).mono ?_
  rintro e w1 ⟨rfl, hb1⟩
  have B1 : Hid (Below w.heap.size w w1) := Below.andThen (by repeat (first | exact Below.refl _ _ | apply Below.drew | apply Below.al)) hb1
  have HB1 : Hid (w1.heap[w.heap.size]? = some (.cells #[.slice a len capb] 24 (0, 0))) := blk11 hb1 (at11 _ _ _ rfl)
  clear hb1
  go_wp2_with fail
  refine wp_region_held_drew (S := fun z => Below w1.heap.size w1 z) (by kernel_rfl) (Below.drew (Below.refl _ _)) (fun hHeld => ?_)
  refine tk 0 (.slice a len capb) rfl (.inl ⟨by rfl, ?_⟩) ?_
  · intro w9 hSw
    try dsimp only at hSw
    have c9 : w9.cell? ⟨w.heap.size, 0, none⟩ = some (.slice a len capb) := by rw [cell_of_row _ _ 0 _ _ _ (blk11 hSw HB1.out)]; rfl
    go_simp
    all_goals try assumption
  try simp only [Act.put, gA, gS, gZ, sA, sZ, sS]
  refine tk 1 (.int .i64 (len : Int)) rfl (.inl ⟨by rfl, ?_⟩) ?_
  · intro w9 hSw
    try dsimp only at hSw
    go_simp
    all_goals try decide
    all_goals try assumption
    all_goals try omega
  try simp only [Act.put, gA, gS, gZ, sA, sZ, sS]
  refine tk 2 (.slice ad N cap) rfl (.inl ⟨by rfl, ?_⟩) ?_
  · intro w9 hSw
    try dsimp only at hSw
    go_simp
    all_goals try decide
    all_goals try assumption
    all_goals try omega
  try simp only [Act.put, gA, gS, gZ, sA, sZ, sS]
  refine wpAnyH_ready (rs := [3]) (by kernel_rfl) (by simp) ?_
  refine AllReadyH.cons rfl (fun K' hK => ?_) AllReadyH.nil
  rw [if_pos (by rfl)]
  simp only [gA, gS, gZ]
  go_wp2_with fail
  refine (HS.out _ (Below.andThen B1.out (Below.drew (Below.refl _ _)))).mono ?_
  rintro e z3 ⟨rfl, hb3⟩
  have N3 : Hid (Below w1.heap.size w1 z3) := Below.andThen (Below.drew (Below.refl _ _)) hb3
  clear hb3
  try go_wp2_with fail
  refine hK.out _ _ (N3.out) (fun hHeld => ?_)
  clear hK K'
  try simp only [Act.put, gA, gS, gZ, sA, sZ, sS]
  refine tk 4 (.bool false) rfl (.inl ⟨by rfl, ?_⟩) ?_
  · intro w9 hSw
    try dsimp only at hSw
    have q1 : ¬ ((len : Int) < (R : Int)) := by omega
    go_simp
    all_goals try omega
  try simp only [Act.put, gA, gS, gZ, sA, sZ, sS]
  refine wpAnyH_done (by kernel_rfl) ?_ _
  have B3 : Hid (Below w.heap.size w z3) := Below.andThen B1.out hHeld
  have HB3 : Hid (z3.heap[w.heap.size]? = some (.cells #[.slice a len capb] 24 (0, 0))) := blk11 hHeld HB1.out
  clear hHeld N3
  go_wp2_with fail
  obtain ⟨Bx, hBx⟩ : ∃ Bx, Hid (Bx = z3.heap.size) := ⟨_, rfl⟩
  rw [← hBx.out]
  have BX0 : Hid ((z3.alloc (.cells #[.int .i64 0] 3)).heap[Bx]? = some (.cells #[.int .i64 0] 3 (0, 0))) := by show _ = _; rw [hBx.out]; exact heap_new _ _
  have nBx : Bx ≠ w.heap.size := by have := lt_of_heap HB3.out; have := hBx.out; omega
  have gBx : w.heap.size ≤ Bx := by have := B3.out.size; have := hBx.out; omega
  go_loopw [11, 31] (fun u11 iv wr => ∃ (k : Nat) (us : List Vq) (rs : List (Int × Int × List Int)), k ≤ N ∧ iv = .int .i64 (k : Int) ∧ Hid (IsV wr w.heap.size u11 us ∧ us.length ≤ k ∧ Vs wr w.heap.size us rs ∧ RES = unC mc zs (ms.drop k) (sumB ms k) ∧ ROWS = rs ++ unV zs (ms.drop k) (sumB ms k) ∧ wr.heap[w.heap.size]? = some (.cells #[.slice a len capb] 24 (0, 0)) ∧ wr.heap[Bx]? = some (.cells #[.int .i64 ((sumB ms k : Nat) : Int)] 3 (0, 0)) ∧ Below w.heap.size w wr)) (fun _ iv _ => N - (intOf iv).toNat)
  case atStart => exact ⟨0, [], [], Nat.zero_le _, rfl, isV_nil _ _, Nat.le_refl _, vs_nil _ _, hRES.out, hROWS.out, ext11 HB3.out, BX0.out, Below.al B3.out _⟩
  case round =>
    obtain ⟨k, us, rs, hk, rfl, HR⟩ := hrel
    by_cases hkN : k < N
    · obtain rfl := HAD.out (by omega)
      have gk : (k : Int) < (N : Int) := by omega
      have gk0 : (0 : Int) ≤ (k : Int) := by omega
      obtain ⟨x, hx⟩ : ∃ x, ms[k]? = some x := ⟨_, List.getElem?_eq_getElem (by omega)⟩
      obtain ⟨r1, r2, r3, rC, rV, r4, r5, r6⟩ := HR.out
      obtain ⟨c0, c1, c2⟩ := (HM.out.next r6) k x hx
      have HXm : Hid (x ∈ ms) := List.mem_of_getElem? hx
      have SS : Hid (sumB ms (k + 1) = sumB ms k + x.b) := sumB_succ hx
      have SL : Hid (sumB ms (k + 1) ≤ sumB ms N) := sumB_le ms (by omega)
      have wk : IntKind.i64.wrap ((k : Int) + 1) = ((k + 1 : Nat) : Int) := by rw [IntKind.wrap_i64]; omega
      have DR : ms.drop k = x :: ms.drop (k + 1) := by
        obtain ⟨hk2, he⟩ := List.getElem?_eq_some_iff.1 hx
        rw [List.drop_eq_getElem_cons hk2, he]
      have RC : Hid (RES = if gpB x = true then unC mc zs (ms.drop (k + 1)) (sumB ms (k + 1)) else if mc x (tkB zs (sumB ms k) x.b) ≠ 0 then mc x (tkB zs (sumB ms k) x.b) else unC mc zs (ms.drop (k + 1)) (sumB ms (k + 1))) := by
        show _ = _
        rw [rC, DR, SS.out]
        rfl
      have RV : Hid (ROWS = rs ++ if gpB x = true then unV zs (ms.drop (k + 1)) (sumB ms (k + 1)) else (x.i, x.s, tkB zs (sumB ms k) x.b) :: unV zs (ms.drop (k + 1)) (sumB ms (k + 1))) := by
        show _ = _
        rw [rV, DR, SS.out]
        rfl
      have OT : Hid (Oct (tkB zs (sumB ms k) x.b)) := tkB_oct HW.out.oct _ _
      have R1 : Hid (IsV wr w.heap.size u11 us) := r1
      have R2 : Hid (us.length ≤ k) := r2
      have R3 : Hid (Vs wr w.heap.size us rs) := r3
      have R4 : Hid (wr.heap[w.heap.size]? = some (.cells #[.slice a len capb] 24 (0, 0))) := r4
      have R5 : Hid (wr.heap[Bx]? = some (.cells #[.int .i64 ((sumB ms k : Nat) : Int)] 3 (0, 0))) := r5
      have R6 : Hid (Below w.heap.size w wr) := r6
      clear r1 r2 r3 r4 r5 r6 rC rV DR HR hx
      go_wp2_with fail
      refine (take_any x.b (sumB ms k) w.heap.size Bx a len capb zs _ (ext11 R4.out) (ext11 R5.out) ((HW.out.next R6.out).next (by repeat (first | exact Below.refl _ _ | apply Below.drew | apply Below.al))) (by have := SS.out; have := SL.out; omega) (by have := SS.out; have := SL.out; have := hR.out; omega) (by omega)).mono ?_
      rintro e w2 ⟨g, rfl, hg, g2, x2, k2⟩
      have lBx : Bx < wr.heap.size := lt_of_heap R5.out
      have hgw : wr.heap.size + 1 ≤ g := by simpa using hg
      have X2 : Hid (w2.heap[wr.heap.size]? = some (.cells #[.int .u16 x.i, .int .u8 x.s, .int .i64 (x.b : Int)] 35 (0, 0))) := k2.at (by simp; omega) (at11 _ _ _ rfl)
      have G2 : Hid (w2.heap[g]? = some (.cells ((tkB zs (sumB ms k) x.b).map (Value.int .u8)).toArray 5 (0, 0))) := g2
      have XX2 : Hid (w2.heap[Bx]? = some (.cells #[.int .i64 ((sumB ms (k + 1) : Nat) : Int)] 3 (0, 0))) := by rw [SS.out]; exact x2
      have B2 : Hid (Below w.heap.size w w2) := Kp.below (Below.al R6.out _) k2 (by have := R6.out.size; simp; omega) (by simp; omega)
      have V2 : Hid (IsV w2 w.heap.size u11 us) := (R1.out.next (Below.al (Below.refl _ _) (.cells #[.int .u16 x.i, .int .u8 x.s, .int .i64 (x.b : Int)] 35))).same fun kk hkk => k2.block kk (by have := (R1.out.lt kk hkk).2; simp; omega) (by
        intro hmm
        simp at hmm
        subst hmm
        exact R1.out.ne R5.out (by decide) hkk.symm)
      have J2 : Hid (Vs w2 w.heap.size us rs) := R3.out.mv fun g' C hg' => k2.at (by
        intro hmm
        simp at hmm
        subst hmm
        rw [R5.out] at hg'
        simp at hg') (ext11 hg')
      have A2 : Hid (w2.heap[w.heap.size]? = some (.cells #[.slice a len capb] 24 (0, 0))) := k2.at (by simp; omega) (ext11 R4.out)
      have d0 : w2.cell? ⟨wr.heap.size, 0, none⟩ = some (.int .u16 x.i) := by rw [cell_of_row _ _ 0 _ _ _ X2.out]; rfl
      have d1 : w2.cell? ⟨wr.heap.size, 1, none⟩ = some (.int .u8 x.s) := by rw [cell_of_row _ _ 1 _ _ _ X2.out]; rfl
      have d2 : w2.cell? ⟨wr.heap.size, 2, none⟩ = some (.int .i64 (x.b : Int)) := by rw [cell_of_row _ _ 2 _ _ _ X2.out]; rfl
      have hi := HI.out x HXm.out
      have R6s : Hid (w.heap.size ≤ g) := by show w.heap.size ≤ g; have := R6.out.size; omega
      clear hg g2 x2 k2 c0 c1 c2 R1 R3 R4 R5 R6
      go_wp2_with fail
      obtain ⟨gp, hgp⟩ : ∃ gp, Hid (gp = gpB x) := ⟨_, rfl⟩
      rw [← hgp.out] at RC RV
      have GP := isGap_any x.i x.s x.b w2 hi.1 hi.2
      rw [show gapB x.i x.s x.b = gp from hgp.out.symm] at GP
      refine GP.mono ?_
      rintro e w3 ⟨rfl, hb3⟩
      clear GP
      have B3 : Hid (Below w.heap.size w w3) := Below.andThen B2.out hb3
      have N3 : Hid (Below w2.heap.size w2 w3) := hb3
      have X3 := blk11 hb3 X2.out
      have e0 : w3.cell? ⟨wr.heap.size, 0, none⟩ = some (.int .u16 x.i) := by rw [cell_of_row _ _ 0 _ _ _ X3]; rfl
      have e1 : w3.cell? ⟨wr.heap.size, 1, none⟩ = some (.int .u8 x.s) := by rw [cell_of_row _ _ 1 _ _ _ X3]; rfl
      have HX3 : Hid (w3.heap[wr.heap.size]? = some (.cells #[.int .u16 x.i, .int .u8 x.s, .int .i64 (x.b : Int)] 35 (0, 0))) := X3
      clear hb3 d0 d1 d2 X3
      cases gp with
      | true =>
        have FR : Hid (IsV w3 w.heap.size u11 us ∧ us.length ≤ k + 1 ∧ Vs w3 w.heap.size us rs ∧ RES = unC mc zs (ms.drop (k + 1)) (sumB ms (k + 1)) ∧ ROWS = rs ++ unV zs (ms.drop (k + 1)) (sumB ms (k + 1)) ∧ w3.heap[w.heap.size]? = some (.cells #[.slice a len capb] 24 (0, 0)) ∧ w3.heap[Bx]? = some (.cells #[.int .i64 ((sumB ms (k + 1) : Nat) : Int)] 3 (0, 0)) ∧ Below w.heap.size w w3) := by
          refine ⟨V2.out.next N3.out, by have := R2.out; omega, J2.out.mv fun g' C hg' => blk11 N3.out hg', ?_, ?_, blk11 N3.out A2.out, blk11 N3.out XX2.out, B3.out⟩
          · rw [RC.out]; simp
          · rw [RV.out]; simp
        clear RC RV
        go_wp2_with fail
        exact ⟨⟨k + 1, us, rs, by omega, by go_num, FR.out⟩, by simp [intOf]; omega⟩
      | false =>
        obtain ⟨y, hy⟩ : ∃ y, Hid (y = mc x (tkB zs (sumB ms k) x.b)) := ⟨_, rfl⟩
        rw [← hy.out] at RC
        have MY := HY.out w3 B3.out x HXm.out hgp.out.symm (tkB zs (sumB ms k) x.b) g (tkB_len _ _ _) OT.out (blk11 N3.out G2.out)
        rw [← hy.out] at MY
        go_wp2_with fail
        refine MY.mono ?_
        clear MY
        rintro e w4 ⟨tg, rfl, hb4⟩
        have B4 : Hid (Below w.heap.size w w4) := Below.andThen B3.out hb4
        have N4 : Hid (Below w2.heap.size w2 w4) := Below.andThen N3.out hb4
        have X4 := blk11 hb4 HX3.out
        have f0 : w4.cell? ⟨wr.heap.size, 0, none⟩ = some (.int .u16 x.i) := by rw [cell_of_row _ _ 0 _ _ _ X4]; rfl
        have f1 : w4.cell? ⟨wr.heap.size, 1, none⟩ = some (.int .u8 x.s) := by rw [cell_of_row _ _ 1 _ _ _ X4]; rfl
        have V4 : Hid (IsV w4 w.heap.size u11 us) := V2.out.next N4.out
        clear hb4 e0 e1 X4
        by_cases hy0 : y = 0
        case neg =>
          have FR : Hid (∀ e, e = .returned (.tuple #[.slice none 0 0, .int .u32 y]) → UPost w RES ROWS e w4) := fun e he => by
            have hres : RES = y := by rw [RC.out]; simp [hy0]
            exact ⟨.inl ⟨by rw [hres]; exact hy0, by rw [hres]; exact he⟩, B4.out⟩
          clear RC RV
          go_wp2_with fail
          go_ret2
          exact FR.out _ rfl
        subst hy0
        have RC2 : Hid (RES = unC mc zs (ms.drop (k + 1)) (sumB ms (k + 1))) := by show _ = _; rw [RC.out]; simp
        have RV2 : Hid (ROWS = (rs ++ [(x.i, x.s, tkB zs (sumB ms k) x.b)]) ++ unV zs (ms.drop (k + 1)) (sumB ms (k + 1))) := by show _ = _; rw [RV.out]; simp
        clear RC RV
        have hul : us.length ≤ 1000000 := by have := R2.out; omega
        go_wp2_with (first | (at_builtin; refine wpList_append_value rfl _ _ rfl w.heap.size u11 us rfl (V4.out.next (by repeat (first | exact Below.refl _ _ | apply Below.drew | apply Below.al))) ⟨w4.heap.size, 0, none⟩ ⟨x.i, x.s, g, (x.b + 7) / 8⟩ rfl ?q1 hul ?q2 ?_) | go_in)
        case q1 =>
          intro j u hj
          rw [Addr.add_lit, Nat.zero_add]
          match j, hj with
          | 0, hj => rw [cell_of_row _ _ 0 _ _ _ (at11 _ _ _ rfl)]; simpa [Vq.L] using hj
          | 1, hj => rw [cell_of_row _ _ 1 _ _ _ (at11 _ _ _ rfl)]; simpa [Vq.L] using hj
          | 2, hj => rw [cell_of_row _ _ 2 _ _ _ (at11 _ _ _ rfl)]; simpa [Vq.L] using hj
        case q2 => have := B4.out.size; simp; omega
        intro v' z hz hgr
        have KEEP : ∀ (b : Nat) (C : Array Value) (T : TypeId) (f : Nat × Nat), w4.heap[b]? = some (.cells C T f) → T ≠ 43 → z.heap[b]? = some (.cells C T f) := fun b C T f hb hT => by
          rw [hgr.block b (by have := lt_of_heap hb; simp; omega) (V4.out.ne hb hT), Below.heap_alloc _ _ _ (lt_of_heap hb)]
          exact hb
        have BZ : Hid (Below w.heap.size w z) := ⟨hgr.os.trans B4.out.os, hgr.tape.trans B4.out.tape, hgr.output.trans B4.out.output, by have := hgr.size; simp at this; have := B4.out.size; omega, fun kk hkk => by
          have s4 := B4.out.size
          rw [hgr.block kk (by simp; omega) (fun e => by have := (V4.out.lt kk e.symm).1; omega), Below.heap_alloc _ _ _ (by omega)]
          exact B4.out.block kk hkk⟩
        have FIN : Hid (IsV z w.heap.size v' (us ++ [⟨x.i, x.s, g, (x.b + 7) / 8⟩]) ∧ (us ++ [(⟨x.i, x.s, g, (x.b + 7) / 8⟩ : Vq)]).length ≤ k + 1 ∧ Vs z w.heap.size (us ++ [(⟨x.i, x.s, g, (x.b + 7) / 8⟩ : Vq)]) (rs ++ [(x.i, x.s, tkB zs (sumB ms k) x.b)]) ∧ RES = unC mc zs (ms.drop (k + 1)) (sumB ms (k + 1)) ∧ ROWS = (rs ++ [(x.i, x.s, tkB zs (sumB ms k) x.b)]) ++ unV zs (ms.drop (k + 1)) (sumB ms (k + 1)) ∧ z.heap[w.heap.size]? = some (.cells #[.slice a len capb] 24 (0, 0)) ∧ z.heap[Bx]? = some (.cells #[.int .i64 ((sumB ms (k + 1) : Nat) : Int)] 3 (0, 0)) ∧ Below w.heap.size w z) := by
          refine ⟨hz, by have := R2.out; simp; omega, ?_, RC2.out, RV2.out, KEEP _ _ _ _ (blk11 N4.out A2.out) (by decide), KEEP _ _ _ _ (blk11 N4.out XX2.out) (by decide), BZ.out⟩
          exact (J2.out.mv fun g' C hg' => KEEP _ _ _ _ (blk11 N4.out hg') (by decide)).app (tkB_len _ _ _) (by have := B2.out.size; have := R6s.out; omega) (KEEP _ _ _ _ (blk11 N4.out G2.out) (by decide))
        clear hz hgr KEEP f0 f1
        go_wp2_with fail
        exact ⟨⟨k + 1, _, _, by omega, by go_num, FIN.out⟩, by simp [intOf]; omega⟩
    · obtain rfl : k = N := by omega
      obtain ⟨r1, r2, r3, rC, rV, r4, r5, r6⟩ := HR.out
      have FR : Hid (∀ e, e = .returned (.tuple #[u11, .int .u32 0]) → UPost w RES ROWS e wr) := fun e he => by
        rw [List.drop_of_length_le (by omega)] at rC rV
        exact ⟨.inr ⟨rC, u11, us, he, r1, by rw [rV]; simp only [unV, List.append_nil]; exact r3⟩, r6⟩
      clear r1 r2 r3 rC rV r4 r5 r6 HR
      go_wp2_with fail
      go_ret2
      exact FR.out _ rfl
#print axioms may_code
#print axioms unpack_O
end Go.Proofs.YtgpgpoohchogdaaDoor
namespace Go.Proofs.YtgpgpoohchogdaaDoor
open Go.RowKit

set_option linter.unusedSimpArgs false in
set_option maxHeartbeats 4000000 in
set_option maxRecDepth 100000 in
theorem unpack_shortO (p : Nat) (ad : Option Addr) (gm off N cap : Nat) (ms : List Mq) (a : Option Addr) (len capb : Nat) (w : World) (hN : ms.length = N) (had : 0 < N → ad = some ⟨gm, off, none⟩) (h64 : N ≤ 64) (hM : MsO w gm off ms) (hC : ∀ W, Below w.heap.size w W → Calls Tryd.prog 8 #[.pointer (some ⟨p, 0, none⟩), .slice ad N cap, .bool false] W fun e w' => e = .returned (.int .u32 0) ∧ Below W.heap.size W w') (hs : sumB ms N ≤ 64) (hlen : len < (sumB ms N + 7) / 8) :
    Calls Tryd.prog 9 #[.pointer (some ⟨p, 0, none⟩), .slice ad N cap, .slice a len capb] w fun e w' => e = .returned (.tuple #[.slice none 0 0, .int .u32 101122064]) ∧ Below w.heap.size w w' := by
  obtain ⟨R, hR⟩ : ∃ R, Hid (R = (sumB ms N + 7) / 8) := ⟨_, rfl⟩
  have HC : Hid (∀ W, Below w.heap.size w W → Calls Tryd.prog 8 #[.pointer (some ⟨p, 0, none⟩), .slice ad N cap, .bool false] W fun e w' => e = .returned (.int .u32 0) ∧ Below W.heap.size W w') := hC
  have HS : Hid (∀ W, Below w.heap.size w W → Calls Tryd.prog 12 #[.slice ad N cap] W fun e w' => e = .returned (.int .i64 (R : Int)) ∧ Below W.heap.size W w') := fun W hb => by rw [hR.out]; exact size_O ad gm off N cap had ms W hN h64 (hM.next hb) hs
  have hRl : len < R := by have := hR.out; omega
  clear hM had hC
  go_enter Tryd.func9, Tryd.ntmps9
  go_wp2_with fail
  refine (HC.out _ (by repeat (first | exact Below.refl _ _ | apply Below.drew | apply Below.al))).mono ?_
  rintro e w1 ⟨rfl, hb1⟩
  have B1 : Hid (Below w.heap.size w w1) := Below.andThen (by repeat (first | exact Below.refl _ _ | apply Below.drew | apply Below.al)) hb1
  have HB1 : Hid (w1.heap[w.heap.size]? = some (.cells #[.slice a len capb] 24 (0, 0))) := blk11 hb1 (at11 _ _ _ rfl)
  clear hb1
  go_wp2_with fail
  refine wp_region_held_drew (S := fun z => Below w1.heap.size w1 z) (by kernel_rfl) (Below.drew (Below.refl _ _)) (fun hHeld => ?_)
  refine tk 0 (.slice a len capb) rfl (.inl ⟨by rfl, ?_⟩) ?_
  · intro w9 hSw
    try dsimp only at hSw
    have c9 : w9.cell? ⟨w.heap.size, 0, none⟩ = some (.slice a len capb) := by rw [cell_of_row _ _ 0 _ _ _ (blk11 hSw HB1.out)]; rfl
    go_simp
    all_goals try assumption
  try simp only [Act.put, gA, gS, gZ, sA, sZ, sS]
  refine tk 1 (.int .i64 (len : Int)) rfl (.inl ⟨by rfl, ?_⟩) ?_
  · intro w9 hSw
    try dsimp only at hSw
    go_simp
    all_goals try decide
    all_goals try assumption
    all_goals try omega
  try simp only [Act.put, gA, gS, gZ, sA, sZ, sS]
  refine tk 2 (.slice ad N cap) rfl (.inl ⟨by rfl, ?_⟩) ?_
  · intro w9 hSw
    try dsimp only at hSw
    go_simp
    all_goals try decide
    all_goals try assumption
    all_goals try omega
  try simp only [Act.put, gA, gS, gZ, sA, sZ, sS]
  refine wpAnyH_ready (rs := [3]) (by kernel_rfl) (by simp) ?_
  refine AllReadyH.cons rfl (fun K' hK => ?_) AllReadyH.nil
  rw [if_pos (by rfl)]
  simp only [gA, gS, gZ]
  go_wp2_with fail
  refine (HS.out _ (Below.andThen B1.out (Below.drew (Below.refl _ _)))).mono ?_
  rintro e z3 ⟨rfl, hb3⟩
  have N3 : Hid (Below w1.heap.size w1 z3) := Below.andThen (Below.drew (Below.refl _ _)) hb3
  clear hb3
  try go_wp2_with fail
  refine hK.out _ _ (N3.out) (fun hHeld => ?_)
  clear hK K'
  try simp only [Act.put, gA, gS, gZ, sA, sZ, sS]
  refine tk 4 (.bool true) rfl (.inl ⟨by rfl, ?_⟩) ?_
  · intro w9 hSw
    try dsimp only at hSw
    have q1 : (len : Int) < (R : Int) := by omega
    go_simp
    all_goals try omega
  try simp only [Act.put, gA, gS, gZ, sA, sZ, sS]
  refine wpAnyH_done (by kernel_rfl) ?_ _
  have B3 : Hid (Below w.heap.size w z3) := Below.andThen B1.out hHeld
  clear hHeld N3
  go_wp2_with fail
  go_ret2
  exact ⟨rfl, B3.out⟩

theorem row_own {w : World} {g n : Nat} {zb : List Int} (hn : zb.length = n) (ho : Oct zb) (hh : w.heap[g]? = some (.cells (zb.map (Value.int .u8)).toArray 5 (0, 0))) : Row w (some ⟨g, 0, none⟩) n zb := ⟨hn, ho, fun _ => ⟨g, 0, rfl, fun i hi => by
  rw [cell_of_row _ _ (0 + i) _ _ _ hh, List.getElem?_toArray, List.getElem?_map, Nat.zero_add, List.getElem?_eq_getElem (by omega)]
  simp [List.getD_eq_getElem?_getD, List.getElem?_eq_getElem (show i < zb.length by omega)]⟩⟩
theorem gpB_q {x : Mz} (h : 0 ≤ x.b) : gpB x.q = gapB x.i x.s x.b := by
  unfold gpB
  show gapB x.i x.s (x.b.toNat : Int) = _
  rw [Int.toNat_of_nonneg h]
/-- What May says of the places of a dictionary. -/
def MayC (p : Nat) (lst : Mp) (w : World) (mc : Mq → List Int → Int) : Prop := ∀ x : Mz, cfD lst false x = 0 → gpB x.q = false → ∀ W, Below w.heap.size w W → ∀ zb g, zb.length = (x.q.b + 7) / 8 → Oct zb → W.heap[g]? = some (.cells (zb.map (Value.int .u8)).toArray 5 (0, 0)) → Calls Tryd.prog 15 #[.pointer (some ⟨p, 0, none⟩), plV x.i x.s, .slice (some ⟨g, 0, none⟩) ((x.q.b + 7) / 8) ((x.q.b + 7) / 8)] W fun e w' => ∃ tg, e = .returned (.tuple #[.int .u8 tg, .int .u32 (mc x.q zb)]) ∧ Below W.heap.size W w'
theorem MayC.next {p : Nat} {lst : Mp} {w w' : World} {mc : Mq → List Int → Int} (h : MayC p lst w mc) (hb : Below w.heap.size w w') : MayC p lst w' mc := fun x h1 h2 W hW => h x h1 h2 W (Below.andThen hb hW)
theorem may_all (p m : Nat) (cg : Int) (lst : Mp) (val : Int → Int → List Int) (w : World) (hp : w.heap[p]? = some (.cells #[.map (some m), .int .i64 cg] 61 (0, 0))) (hm : IsM w m lst) (ho : ItOk w lst val) (hT : Ty.Tab64 w) : ∃ mc, MayC p lst w mc := by
  have each : ∀ q : Mq, ∃ f : List Int → Int, ∀ x : Mz, x.q = q → cfD lst false x = 0 → gpB x.q = false → ∀ W, Below w.heap.size w W → ∀ zb g, zb.length = (x.q.b + 7) / 8 → Oct zb → W.heap[g]? = some (.cells (zb.map (Value.int .u8)).toArray 5 (0, 0)) → Calls Tryd.prog 15 #[.pointer (some ⟨p, 0, none⟩), plV x.i x.s, .slice (some ⟨g, 0, none⟩) ((x.q.b + 7) / 8) ((x.q.b + 7) / 8)] W fun e w' => ∃ tg, e = .returned (.tuple #[.int .u8 tg, .int .u32 (f zb)]) ∧ Below W.heap.size W w' := fun q => by
    cases hl : lookP lst q.i q.s with
    | none =>
      refine ⟨fun _ => 0, fun x hx hc hg => ?_⟩
      subst hx
      exfalso
      have hb := cfD_bd hc
      rw [gpB_q hb.1] at hg
      unfold cfD at hc
      have hl : lookP lst x.i x.s = none := hl
      rw [if_neg (by rw [hg]; decide), hl] at hc
      exact absurd hc (miss_ne _ _)
    | some u =>
      obtain ⟨nm, t, rt, d, ld, cd, l, ll, cl, h, lh, ch, tg, gr, v, lv, cv, zd, zl, zh, rfl, r1, r2, r3, r4, g1, g2, g3, g4, g5⟩ := ho _ _ _ hl
      refine ⟨fun zb => Ty.chkN t zb zl zh, fun x hx hc hg W hW zb g hn hO hh => ?_⟩
      subst hx
      have hb := cfD_bd hc
      rw [gpB_q hb.1] at hg
      have hr : (bits .and .u8 rt 2 != 0) = true := by
        unfold cfD at hc
        have hl : lookP lst x.i x.s = _ := hl
        rw [if_neg (by rw [hg]; decide), hl] at hc
        simp only at hc
        split at hc
        · rename_i hq
          simp only [Bool.and_eq_true] at hq
          have h2 : (!(bits .and .u8 rt 2 == 0)) = true := hq.2
          simpa using h2
        · exact absurd hc (by decide)
      have h64 : (x.q.b + 7) / 8 ≤ 8 := by show (x.b.toNat + 7) / 8 ≤ 8; omega
      exact may_code p m cg lst x.i x.s nm t rt d ld cd l ll cl h lh ch tg gr v lv cv (some ⟨g, 0, none⟩) _ _ zb zl zh W (blk11 hW hp) (hm.next hW) hl ⟨row_own hn hO hh, Nat.le_refl _, by unfold maxLen; omega⟩ (r2.next hW) (r3.next hW) (tab_next hT hW) hr _ rfl
  obtain ⟨f, hf⟩ := Classical.axiomOfChoice each
  exact ⟨f, fun x => hf x.q x rfl⟩
theorem chkC_zeroB {lst : Mp} {out : Bool} {ms : List Mz} (h : chkC lst out ms = 0) : ms.length ≤ 64 ∧ (∀ x ∈ ms, cfD lst out x = 0) ∧ (∀ x ∈ ms, 0 ≤ x.b) ∧ sumB (ms.map Mz.q) ms.length ≤ 64 := by
  have hl : ms.length ≤ 64 := by
    unfold chkC at h
    split at h
    · exact absurd h (by decide)
    · omega
  have hz : (∀ x ∈ ms, cfD lst out x = 0) ∧ 0 + (ms.map (·.b)).sum ≤ 64 := by
    unfold chkC at h
    rw [if_neg (by omega)] at h
    exact chkZ_zero _ ms 0 h (by decide)
  have hb : ∀ x ∈ ms, 0 ≤ x.b := fun x hx => (cfD_bd (hz.1 x hx)).1
  refine ⟨hl, hz.1, hb, ?_⟩
  unfold sumB
  rw [List.take_of_length_le (by simp)]
  have := sum_q ms hb
  omega
/-- Unpack's code, of a mapping that may be. -/
def unR (mc : Mq → List Int → Int) (zs : List Int) (qs : List Mq) : Int := if zs.length < (sumB qs qs.length + 7) / 8 then 101122064 else unC mc zs qs 0
theorem unpack_any (p m : Nat) (cg : Int) (lst : Mp) (val : Int → Int → List Int) (ad : Option Addr) (g off cap : Nat) (ms : List Mz) (had : 0 < ms.length → ad = some ⟨g, off, none⟩) (w : World) (hp : w.heap[p]? = some (.cells #[.map (some m), .int .i64 cg] 61 (0, 0))) (hm : IsM w m lst) (ho : ItOk w lst val) (hM : MzAt w g off ms) (hi : ∀ x ∈ ms, 0 ≤ x.i ∧ x.i < 65536) (hc : chkC lst false ms = 0) (a : Option Addr) (len capb : Nat) (zs : List Int) (hr : Row w a len zs) (hlen : len ≤ 1000) (mc : Mq → List Int → Int) (hmc : MayC p lst w mc) :
    Calls Tryd.prog 9 #[.pointer (some ⟨p, 0, none⟩), .slice ad ms.length cap, .slice a len capb] w fun e w' => UPost w (unR mc zs (ms.map Mz.q)) (unV zs (ms.map Mz.q) 0) e w' := by
  obtain ⟨h64, hz, hb, hs⟩ := chkC_zeroB hc
  have HC : ∀ W, Below w.heap.size w W → Calls Tryd.prog 8 #[.pointer (some ⟨p, 0, none⟩), .slice ad ms.length cap, .bool false] W fun e w' => e = .returned (.int .u32 0) ∧ Below W.heap.size W w' := fun W hW => by
    have := check_any false p m cg lst val ad g off cap ms had W (blk11 hW hp) (hm.next hW) (ho.next hW) (hM.next hW) hi
    rw [hc] at this
    exact this
  have hl := hr.size
  unfold unR
  rw [List.length_map, hl]
  by_cases hlt : len < (sumB (ms.map Mz.q) ms.length + 7) / 8
  · rw [if_pos hlt]
    exact (unpack_shortO p ad g off ms.length cap (ms.map Mz.q) a len capb w (by simp) had h64 (hM.o hb) HC hs hlt).mono fun e w' ⟨h1, h2⟩ => ⟨.inl ⟨by decide, h1⟩, h2⟩
  · rw [if_neg hlt]
    refine unpack_O p ad g off ms.length cap (ms.map Mz.q) mc a len capb zs w (by simp) had h64 (hM.o hb) (fun y hy => ?_) HC hs hr (by omega) hlen (fun W hW y hy hg zb g' hn hO hh => ?_)
    · obtain ⟨x, hx, rfl⟩ := List.mem_map.1 hy
      exact hi x hx
    · obtain ⟨x, hx, rfl⟩ := List.mem_map.1 hy
      exact hmc x (hz x hx) hg W hW zb g' hn hO hh
theorem bitA_drop (zs : List Int) (n k : Nat) : bitA zs (8 * n + k) = bitA (zs.drop n) k := by
  unfold bitA
  rw [show (8 * n + k) / 8 = n + k / 8 by omega, show (8 * n + k) % 8 = k % 8 by omega, List.getD_eq_getElem?_getD, List.getD_eq_getElem?_getD, List.getElem?_drop]
theorem layL_drop (zs : List Int) (n off fr : Nat) {cnt : Nat} (ys : List Int) (pre : List (BX cnt)) : layL zs (8 * n + off) fr ys pre = layL (zs.drop n) off fr ys pre := by
  unfold layL
  induction pre generalizing ys with
  | nil => rfl
  | cons x l ih => simp only [List.foldl_cons]; rw [Nat.add_assoc (8 * n), bitA_drop]; exact ih _
theorem tkB_drop (zs : List Int) (n nx b : Nat) : tkB zs (8 * n + nx) b = tkB (zs.drop n) nx b := layL_drop zs n nx 0 _ _
theorem unC_drop (mc : Mq → List Int → Int) (zs : List Int) (n : Nat) : ∀ (l : List Mq) (k : Nat), unC mc zs l (8 * n + k) = unC mc (zs.drop n) l k
  | [], _ => rfl
  | x :: l, k => by simp only [unC]; rw [tkB_drop, Nat.add_assoc, unC_drop mc zs n l (k + x.b)]
theorem unV_drop (zs : List Int) (n : Nat) : ∀ (l : List Mq) (k : Nat), unV zs l (8 * n + k) = unV (zs.drop n) l k
  | [], _ => rfl
  | x :: l, k => by simp only [unV]; rw [tkB_drop, Nat.add_assoc, unV_drop zs n l (k + x.b)]
theorem chkZ_mono (cf : Mz → Int) : ∀ (ms : List Mz) (n k : Int), chkZ cf ms n = 0 → k ≤ n → chkZ cf ms k = 0
  | [], _, _, _, _ => rfl
  | x :: l, n, k, h, hk => by
    simp only [chkZ] at h ⊢
    split at h
    · rename_i h1; exact absurd h h1
    · rename_i h1
      split at h
      · exact absurd h (by decide)
      · rename_i h2
        rw [if_neg h1, if_neg (by omega)]
        exact chkZ_mono cf l _ _ h (by omega)
/-- A gap ahead of a mapping. -/
def gapZ (n : Nat) (t : Int) : Mz := ⟨t, 0, ((8 * n : Nat) : Int)⟩
theorem sumB_cons (x : Mq) (l : List Mq) (k : Nat) : sumB (x :: l) (k + 1) = x.b + sumB l k := by unfold sumB; simp
theorem gap_ahead (lst : Mp) (mc : Mq → List Int → Int) (zs : List Int) (n : Nat) (t : Int) (ms : List Mz) (hg : gapB t 0 ((8 * n : Nat) : Int) = true) (hl : n ≤ zs.length) (hc : chkC lst false (gapZ n t :: ms) = 0) : chkC lst false ms = 0 ∧ unR mc zs ((gapZ n t :: ms).map Mz.q) = unR mc (zs.drop n) (ms.map Mz.q) ∧ unV zs ((gapZ n t :: ms).map Mz.q) 0 = unV (zs.drop n) (ms.map Mz.q) 0 := by
  have gq : gpB (gapZ n t).q = true := by rw [gpB_q (by show (0 : Int) ≤ ((8 * n : Nat) : Int); omega)]; exact hg
  have bq : (gapZ n t).q.b = 8 * n := rfl
  refine ⟨?_, ?_, ?_⟩
  · unfold chkC at hc ⊢
    split at hc
    · exact absurd hc (by decide)
    · rename_i h1
      rw [if_neg (by simp at h1; omega)]
      have h2 := (show chkZ (cfD lst false) (gapZ n t :: ms) 0 = 0 from hc)
      simp only [chkZ] at h2
      split at h2
      · rename_i h3; exact absurd h2 h3
      · split at h2
        · exact absurd h2 (by decide)
        · exact chkZ_mono _ ms _ 0 h2 (by show (0 : Int) ≤ 0 + ((8 * n : Nat) : Int); omega)
  · unfold unR
    rw [List.map_cons, List.length_cons, sumB_cons, bq, List.length_drop]
    have e1 : unC mc zs ((gapZ n t).q :: ms.map Mz.q) 0 = unC mc (zs.drop n) (ms.map Mz.q) 0 := by
      simp only [unC]
      rw [if_pos gq, show (0 + (gapZ n t).b.toNat) = 8 * n + 0 by show 0 + ((8 * n : Nat) : Int).toNat = _; omega, unC_drop]
    rw [e1]
    by_cases h : zs.length < (8 * n + sumB (ms.map Mz.q) (ms.map Mz.q).length + 7) / 8
    · rw [if_pos h, if_pos (by omega)]
    · rw [if_neg h, if_neg (by omega)]
  · rw [List.map_cons]
    simp only [unV]
    rw [if_pos gq, show (0 + (gapZ n t).b.toNat) = 8 * n + 0 by show 0 + ((8 * n : Nat) : Int).toNat = _; omega, unV_drop]
#print axioms unpack_any
#print axioms gap_ahead
end Go.Proofs.YtgpgpoohchogdaaDoor
namespace Go.Proofs.YtgpgpoohchogdaaDoor
open Go.RowKit

/-- A Map's cells. -/
def Mz.L (x : Mz) : List Value := [.int .u16 x.i, .int .u8 x.s, .int .i64 x.b]
def flz (l : List Mz) : List Value := l.flatMap Mz.L
theorem Mz.L_len (x : Mz) : x.L.length = 3 := rfl
theorem flz_len (l : List Mz) : (flz l).length = l.length * 3 := by
  unfold flz
  induction l with
  | nil => rfl
  | cons x l ih => rw [List.flatMap_cons, List.length_append, ih, Mz.L_len, List.length_cons]; omega
theorem flz_app (l m : List Mz) : flz (l ++ m) = flz l ++ flz m := by unfold flz; rw [List.flatMap_append]
theorem flz_at (l : List Mz) (i : Nat) (x : Mz) (h : l[i]? = some x) (c : Nat) (hc : c < 3) : (flz l)[i * 3 + c]? = x.L[c]? := by
  obtain ⟨hi, he⟩ := List.getElem?_eq_some_iff.1 h
  have e : l = l.take i ++ (x :: l.drop (i + 1)) := by rw [← he, List.getElem_cons_drop, List.take_append_drop]
  have e2 : flz l = flz (l.take i) ++ (x.L ++ flz (l.drop (i + 1))) := by
    conv => lhs; rw [e]
    rw [flz_app]
    rfl
  have hl : (flz (l.take i)).length = i * 3 := by rw [flz_len, List.length_take]; congr 1; omega
  rw [e2, List.getElem?_append_right (by omega), hl, show i * 3 + c - i * 3 = c by omega, List.getElem?_append_left (by rw [Mz.L_len]; exact hc)]
theorem MzAt.news {w : World} {g off : Nat} {ms : List Mz} (h : MzAt w g off ms) : ∀ j u, (flz ms)[j]? = some u → w.cell? ((⟨g, off, none⟩ : Addr).add j) = some u := fun j u hu => by
  have hj := (List.getElem?_eq_some_iff.1 hu).1
  rw [flz_len] at hj
  obtain ⟨x, hx⟩ : ∃ x, ms[j / 3]? = some x := ⟨_, List.getElem?_eq_getElem (by omega)⟩
  have hc : j % 3 < 3 := Nat.mod_lt _ (by decide)
  have e := flz_at ms (j / 3) x hx (j % 3) hc
  rw [show j / 3 * 3 + j % 3 = j by omega, hu] at e
  obtain ⟨c0, c1, c2⟩ := h (j / 3) x hx
  rw [Addr.add_lit]
  rcases (by omega : j % 3 = 0 ∨ j % 3 = 1 ∨ j % 3 = 2) with q | q | q
  · rw [q] at e
    rw [show off + j = off + j / 3 * 3 by omega, c0]
    simpa [Mz.L] using e.symm
  · rw [q] at e
    rw [show off + j = off + j / 3 * 3 + 1 by omega, c1]
    simpa [Mz.L] using e.symm
  · rw [q] at e
    rw [show off + j = off + j / 3 * 3 + 2 by omega, c2]
    simpa [Mz.L] using e.symm
theorem mz_own {w : World} {base g cap n : Nat} {l : List Mz} (hn : l.length = n) (h : w.ownsRow base 35 3 (.slice (some ⟨g, 0, none⟩) n cap) n (flz l)) : MzAt w g 0 l := by
  rcases h.2 with ⟨h1, _⟩ | ⟨g', cap', cur, hv, hg, hh, hn', hm, hs, ht⟩
  · cases h1
  · cases hv
    intro j x hx
    have hj := (List.getElem?_eq_some_iff.1 hx).1
    have q : ∀ c, c < 3 → cur[j * 3 + c]? = x.L[c]? := fun c hc => by
      rw [← flz_at l j x hx c hc, ← ht, List.getElem?_take, if_pos (by omega)]
      simp
    refine ⟨?_, ?_, ?_⟩
    · rw [cell_of_row w g _ _ _ _ hh, Nat.zero_add]; exact q 0 (by decide)
    · rw [cell_of_row w g _ _ _ _ hh, Nat.zero_add]; exact q 1 (by decide)
    · rw [cell_of_row w g _ _ _ _ hh, Nat.zero_add]; exact q 2 (by decide)
theorem infoMz : (Tryd.prog.info? 35).map (fun i => (i.zero, i.size, i.bytes)) = some (some (.agg #[.int .u16 0, .int .u8 0, .int .i64 0]), 3, 16) := by kernel_rfl
/-- Maps that came in, behind one Map. -/
theorem wpList_append_mz {ops : Array Oper} {rest : List Oper} {o : Oper} {a : Act} {w : World} {Q : Exit → Act → World → Prop} (hgd : o.guard = none) (s x : Operand)
    (ho : o.op = .call { callee := .builtin .append, args := #[s, x], argTypes := #[23, 23] }) (base G : Nat) (hG : base ≤ G) (y : Mz) (hs : a.eval s = .slice (some ⟨G, 0, none⟩) 1 1) (hy : w.heap[G]? = some (.cells #[.int .u16 y.i, .int .u8 y.s, .int .i64 y.b] 35 (0, 0)))
    (a1 : Option Addr) (len1 cap1 : Nat) (ms : List Mz) (hx : a.eval x = .slice a1 len1 cap1) (hN : ms.length = len1) (g off : Nat) (had : 0 < ms.length → a1 = some ⟨g, off, none⟩) (hM : MzAt w g off ms) (h60 : len1 ≤ 1000) (hbase : base ≤ w.heap.size)
    (h : ∀ g' cap' w', MzAt w' g' 0 (y :: ms) → Below base w w' → wpList Tryd.prog ops Q rest (a.put o.dst (.slice (some ⟨g', 0, none⟩) (len1 + 1) cap')) w') : wpList Tryd.prog ops Q (o :: rest) a w := by
  obtain ⟨i0, hi, hz0, hz1, hz2⟩ := info_parts infoMz
  have own : w.ownsRow base 35 3 (.slice (some ⟨G, 0, none⟩) 1 1) 1 (flz [y]) := ⟨rfl, .inr ⟨G, 1, _, rfl, hG, hy, Nat.le_refl _, by decide, rfl, rfl⟩⟩
  by_cases h0 : len1 = 0
  · subst h0
    have hm : ms = [] := List.eq_nil_of_length_eq_zero hN
    subst hm
    have src : Src Tryd.prog i0.size 23 (.slice a1 0 cap1) 0 [] w := by
      cases a1 with
      | none => exact Src.ofNil w Tryd.underlying23 cap1
      | some z => exact Src.ofSlice w Tryd.underlying23 z 0 cap1 [] (by simp) (fun j u hu => by simp at hu) (fun u hu => by simp at hu)
    have hrun := run_append_nothing (P := Tryd.prog) w 23 23 o.type 35 i0 Tryd.underlying23 hi (some ⟨G, 0, none⟩) 1 1 (Nat.le_refl _) _ src
    refine wpList_plain hgd fun K hK => ?_
    unfold Oper.wp
    simp [execOp, ho, resolve, invoke, builtin, hs, hx, hrun, Result.andThen]
    exact hK _ _ (h G 1 w (mz_own rfl own) ⟨rfl, rfl, rfl, Nat.le_refl _, fun _ _ => rfl⟩)
  · obtain rfl := had (by omega)
    refine wpList_append_own (P := Tryd.prog) w hgd s x 23 ho base 35 i0 _ 3 16 Tryd.underlying23 hi hz0 hz1 hz2 rfl (by decide) _ 1 _ hs own ⟨g, off, none⟩ len1 cap1 (flz ms) hx (by rw [flz_len, hN]) hM.news (fun u hu => by
      obtain ⟨z, _, hz⟩ := List.mem_flatMap.1 hu
      simp [Mz.L] at hz
      rcases hz with rfl | rfl | rfl <;> rfl) (by unfold maxLen; omega) (by omega) hbase ?_
    intro v' w' h1 h2 _
    rw [← flz_app] at h1
    rcases h1.2 with ⟨_, h3⟩ | ⟨g', cap', cur, hv, hb', hr⟩
    · omega
    · have e : 1 + len1 = len1 + 1 := by omega
      rw [e] at hv hr h1
      subst hv
      refine h g' cap' w' (mz_own (by simp [hN]) h1) ⟨h2.os, h2.tape, h2.output, by have := h2.size; omega, fun k hk => h2.block k (by omega) (fun e' => ?_)⟩
      simp only [Value.ownBlock, Option.some.injEq] at e'
      omega
/-- What Unpack answers, in one form. -/
theorem UPost.form {w : World} {RES : Int} {ROWS : List (Int × Int × List Int)} {e : Ending} {w' : World} (h : UPost w RES ROWS e w') (RW : List (Int × Int × List Int)) (hRW : RW = if RES = 0 then ROWS else []) : ∃ va vc us, e = .returned (.tuple #[.slice va RW.length vc, .int .u32 RES]) ∧ us.length = RW.length ∧ (0 < RW.length → ∃ g, va = some ⟨g, 0, none⟩) ∧ IsV w' w.heap.size (.slice va us.length vc) us ∧ Vs w' w.heap.size us RW ∧ Below w.heap.size w w' := by
  subst hRW
  obtain ⟨h | ⟨h0, v, us, he, hv, hs⟩, hb⟩ := h
  · rw [if_neg h.1]
    exact ⟨none, 0, [], h.2, rfl, fun h => absurd h (by simp), isV_nil _ _, vs_nil _ _, hb⟩
  · rw [h0, if_pos rfl]
    have hl := hs.1
    rcases hv.form with ⟨h1, h2⟩ | ⟨g, cap, cur, h1, _⟩
    · subst h1 h2
      exact ⟨none, 0, [], by rw [← hl]; exact he, hl, fun h => by rw [← hl] at h; simp at h, hv, hs, hb⟩
    · subst h1
      exact ⟨_, cap, us, by rw [← hl]; exact he, hl, fun _ => ⟨g, rfl⟩, hv, hs, hb⟩
theorem Row.dropA {w : World} {b off len : Nat} {zs : List Int} (h : Row w (some ⟨b, off, none⟩) len zs) (n : Nat) (a3 : Option Addr) (ha : n < len → a3 = some ⟨b, off + n, none⟩) : Row w a3 (len - n) (zs.drop n) := ⟨by rw [List.length_drop, h.size], fun x hx => h.oct x (List.mem_of_mem_drop hx), fun hp => by
  obtain ⟨b', off', e, hc⟩ := h.at_ (by omega)
  cases e
  refine ⟨b, off + n, ha (by omega), fun i hi => ?_⟩
  rw [Nat.add_assoc, hc (n + i) (by omega), List.getD_eq_getElem?_getD, List.getD_eq_getElem?_getD, List.getElem?_drop]⟩
/-- The cells of a value. -/
theorem IsV.at {w : World} {base g cap : Nat} {l : List Vq} (h : IsV w base (.slice (some ⟨g, 0, none⟩) l.length cap) l) (i : Nat) (x : Vq) (hx : l[i]? = some x) : w.cell? ⟨g, i * 3, none⟩ = some (.int .u16 x.i) ∧ w.cell? ⟨g, i * 3 + 1, none⟩ = some (.int .u8 x.s) ∧ w.cell? ⟨g, i * 3 + 2, none⟩ = some (.slice (some ⟨x.g, 0, none⟩) x.r x.r) := by
  have hi : i < l.length := (List.getElem?_eq_some_iff.1 hx).1
  rcases h.form with ⟨h1, _⟩ | ⟨g', cap', cur, hv, _, hh, hn, _, hs, ht⟩
  · cases h1
  · cases hv
    have q : ∀ c, c < 3 → cur[i * 3 + c]? = x.L[c]? := fun c hc => by
      rw [← flv_at l i x hx, ← ht, List.getElem?_take, if_pos hc, List.getElem?_drop, List.getElem?_take, if_pos (by omega)]
      simp
    exact ⟨by rw [cell_of_row w g _ _ _ _ hh]; exact q 0 (by decide), by rw [cell_of_row w g _ _ _ _ hh]; exact q 1 (by decide), by rw [cell_of_row w g _ _ _ _ hh]; exact q 2 (by decide)⟩
#print axioms wpList_append_mz
#print axioms UPost.form
#print axioms IsV.at
end Go.Proofs.YtgpgpoohchogdaaDoor
namespace Go.Proofs.YtgpgpoohchogdaaDoor
open Go.RowKit

theorem nePl (i s : Int) : ∀ W, (binOp .neq 33 (plV i s) (plV i s)).run Tryd.prog W = .ok (.bool false) W := fun W => by
  have := neqP W i s i s
  simpa using this
theorem unV_len (zs : List Int) : ∀ (l : List Mq) (k : Nat), (unV zs l k).length ≤ l.length
  | [], _ => Nat.le_refl _
  | x :: l, k => by
    simp only [unV]
    have := unV_len zs l (k + x.b)
    split <;> simp <;> omega
theorem unV_oct {zs : List Int} (hz : Oct zs) : ∀ (l : List Mq) (k : Nat), ∀ r ∈ unV zs l k, Oct r.2.2
  | [], _, r, hr => by simp [unV] at hr
  | x :: l, k, r, hr => by
    simp only [unV] at hr
    split at hr
    · exact unV_oct hz l _ r hr
    · rcases List.mem_cons.1 hr with rfl | hr
      · exact tkB_oct hz _ _
      · exact unV_oct hz l _ r hr
set_option linter.unusedSimpArgs false in
set_option maxHeartbeats 4000000 in
set_option maxRecDepth 100000 in
theorem mappingGaps_0 {w : World} {a0 : Option Addr} {len0 : Nat} {es : List Em} (h0 : IsEn w a0 len0 es) (cap0 : Nat) (lm0 : len0 ≤ maxLen) {a1 : Option Addr} {len1 : Nat} {ms : List Mz} (h1 : IsMz w a1 len1 ms) (cap1 : Nat) {a2 : Option Addr} {len2 : Nat} {zs : List Int} (h2 : Row w a2 len2 zs) (cap2 : Nat) (hc2 : len2 ≤ cap2) (wh : Int) (hw0 : 0 ≤ wh) (hw3 : wh % 3 = 0) (hT : Ty.Tab64 w) :
    Calls Tryd.prog 3 #[.slice a0 len0 cap0, .slice a1 len1 cap1, .slice a2 len2 cap2, .int .u8 wh] w fun e w' => e = .returned (.bool true) ∧ Below w.heap.size w w' := by
  have HT : Hid (Ty.Tab64 w) := hT
  have HS := size12 h0 cap0 lm0
  have H0 : Hid (IsEn w a0 len0 es) := h0
  have H1 : Hid (IsMz w a1 len1 ms) := h1
  have H2 : Hid (Row w a2 len2 zs) := h2
  have HWK : Hid (∀ W, Below w.heap.size w W → Calls Tryd.prog 6 #[] W fun e w' => e = .returned (.bool true) ∧ Below w.heap.size w w') := fun W hb => (works12 W (tab_next hT hb)).mono fun e w' ⟨h1, h2⟩ => ⟨h1, Below.andThen hb h2⟩
  have ht3 : wh.tmod 3 = 0 := by rw [Int.tmod_eq_emod_of_nonneg hw0]; exact hw3
  clear h0 h1 h2 hT
  go_enter Tryd.func3, Tryd.ntmps3
  go_wp2_with fail
  refine HS.mono ?_
  rintro e w1 ⟨sz, rfl, hn, hf, hb⟩
  have B1 : Hid (Below w.heap.size w w1) := hb
  have HF : Hid (sz ≤ 5000 → len0 ≤ 5000 ∧ ∀ e ∈ es, e.ld ≤ 5000 ∧ e.ll ≤ 5000 ∧ e.lh ≤ 5000) := hf
  clear HS hf hb
  by_cases hn5 : 5000 < sz
  · have gn : (5000 : Int) < (sz : Int) := by omega
    go_wp2_with fail
    refine (HWK.out _ B1.out).mono ?_
    rintro e w9 ⟨rfl, hb⟩
    go_wp2_with fail
    go_ret
    exact ⟨rfl, hb⟩
  have gn : ¬ ((5000 : Int) < (sz : Int)) := by omega
  by_cases hl1 : 60 < len1
  · have gl : (60 : Int) < (len1 : Int) := by omega
    go_wp2_with fail
    refine (HWK.out _ B1.out).mono ?_
    rintro e w9 ⟨rfl, hb⟩
    go_wp2_with fail
    go_ret
    exact ⟨rfl, hb⟩
  have gl : ¬ ((60 : Int) < (len1 : Int)) := by omega
  by_cases hm2 : 100 < len2
  · have gm : (100 : Int) < (len2 : Int) := by omega
    go_wp2_with fail
    refine (HWK.out _ B1.out).mono ?_
    rintro e w9 ⟨rfl, hb⟩
    go_wp2_with fail
    go_ret
    exact ⟨rfl, hb⟩
  have gm : ¬ ((100 : Int) < (len2 : Int)) := by omega
  have hF := HF.out (by omega)
  obtain ⟨eb, eo, had0, hat0⟩ : ∃ b off, (0 < es.length → a0 = some ⟨b, off, none⟩) ∧ ∀ (k : Nat) (e : Em), es[k]? = some e → EmAtO w1 b off k e := by
    by_cases hz : 0 < len0
    · obtain ⟨b, off, e, h⟩ := H0.out.at_ hz
      refine ⟨b, off, fun _ => e, fun k x hx => ?_⟩
      have B := B1.out
      obtain ⟨m0, m1, m2, m3, m4, m5, m6, m7, m8, m9⟩ := h k x hx
      exact ⟨(B.cell (block_lt_of_cell m0)).trans m0, (B.cell (block_lt_of_cell m1)).trans m1, (B.cell (block_lt_of_cell m2)).trans m2, (B.cell (block_lt_of_cell m3)).trans m3, (B.cell (block_lt_of_cell m4)).trans m4, (B.cell (block_lt_of_cell m5)).trans m5, (B.cell (block_lt_of_cell m6)).trans m6, (B.cell (block_lt_of_cell m7)).trans m7, (B.cell (block_lt_of_cell m8)).trans m8, (B.cell (block_lt_of_cell m9)).trans m9⟩
    · have hs := H0.out.size
      refine ⟨0, 0, fun h => by omega, fun k x hx => ?_⟩
      have := (List.getElem?_eq_some_iff.1 hx).1
      omega
  have hin : ∀ e ∈ es, EmIn w1 e := fun e he => by
    have a := (H0.out.ok e he).next B1.out
    have b := hF.2 e he
    exact ⟨a.rd, a.rl, a.rh, by omega, by omega, by omega⟩
  have HIN : Hid (∀ e ∈ es, EmIn w1 e) := hin
  have NW := new_any a0 eb eo cap0 es w1 had0 hin hat0 (tab_next HT.out B1.out)
  rw [H0.out.size] at NW
  obtain ⟨g, off, had1, hM1⟩ : ∃ b off, (0 < ms.length → a1 = some ⟨b, off, none⟩) ∧ MzAt w b off ms := by
    by_cases hz : 0 < len1
    · obtain ⟨b, off, e, h⟩ := H1.out.at_ hz
      exact ⟨b, off, fun _ => e, h⟩
    · have hs := H1.out.size
      refine ⟨0, 0, fun h => by omega, fun k x hx => ?_⟩
      have := (List.getElem?_eq_some_iff.1 hx).1
      omega
  have HAD : Hid (0 < ms.length → a1 = some ⟨g, off, none⟩) := had1
  have HM : Hid (MzAt w g off ms) := hM1
  have HI : Hid (∀ x ∈ ms, 0 ≤ x.i ∧ x.i < 65536) := H1.out.ok
  have HL : Hid (ms.length = len1) := H1.out.size
  clear HF hF had0 hat0 hin had1 hM1
  go_wp2_with fail
  refine NW.mono ?_
  rintro e w2 (⟨hc, lst, rfl, hb, hp, hm, hbu⟩ | ⟨hc, rfl, hb⟩)
  case inr =>
    have B2 : Hid (Below w.heap.size w w2) := Below.andThen B1.out hb
    have hc' : ¬ newC es = 0 := hc
    clear NW hb
    go_wp2_with fail
    refine (HWK.out _ B2.out).mono ?_
    rintro e w9 ⟨rfl, hb⟩
    go_wp2_with fail
    go_ret
    exact ⟨rfl, hb⟩
  have B2 : Hid (Below w.heap.size w w2) := Below.andThen B1.out hb
  obtain ⟨val, hval⟩ : ∃ val, Hid (val = valE es) := ⟨_, rfl⟩
  have IT : Hid (ItOk w2 lst val) := by show ItOk _ _ _; rw [hval.out]; exact built_items hbu hc HIN.out
  obtain ⟨P, hP⟩ : ∃ P, Hid (P = w1.heap.size + 1) := ⟨_, rfl⟩
  obtain ⟨M, hMM⟩ : ∃ M, Hid (M = w1.heap.size) := ⟨_, rfl⟩
  rw [← hP.out, ← hMM.out] at hp
  rw [← hMM.out] at hm
  rw [← hP.out]
  have HP : Hid (w2.heap[P]? = some (.cells #[.map (some M), .int .i64 0] 61 (0, 0))) := hp
  have HM2 : Hid (IsM w2 M lst) := hm
  obtain ⟨mc, hmc⟩ := may_all P M 0 lst val w2 hp hm IT.out (tab_next HT.out B2.out)
  have MC : Hid (MayC P lst w2 mc) := hmc
  clear NW hb hp hm hbu hc HIN hval hmc HT
  have RW2 : Hid (Row w2 a2 len2 zs) := H2.out.next B2.out
  have hN1 := HL.out
  have HGI : Hid (∀ x ∈ gapZ 1 5 :: ms, 0 ≤ x.i ∧ x.i < 65536) := fun x hx => by
    rcases List.mem_cons.1 hx with rfl | hx
    · exact ⟨by decide, by decide⟩
    · exact HI.out x hx
  go_wp2_with (first | (at_builtin; refine wpList_append_mz rfl _ _ rfl w2.heap.size w2.heap.size (Nat.le_refl _) (gapZ 1 5) rfl ?q1 a1 len1 cap1 ms rfl HL.out g off HAD.out ?q2 (by omega) ?q3 ?_) | go_in)
  case q1 => exact heap_new _ _
  case q2 => exact (HM.out.next B2.out).next (by repeat (first | exact Below.refl _ _ | apply Below.drew | apply Below.al))
  case q3 => simp
  intro g' cap' z hmz hbz
  have NZ : Hid (Below w2.heap.size w2 z) := ⟨hbz.os, hbz.tape, hbz.output, by have := hbz.size; simp at this; omega, fun k hk => (hbz.block k hk).trans (Below.heap_alloc _ _ _ hk)⟩
  have ZM : Hid (MzAt z g' 0 (gapZ 1 5 :: ms)) := hmz
  have CK := check_any false P M 0 lst val (some ⟨g', 0, none⟩) g' 0 cap' (gapZ 1 5 :: ms) (fun _ => rfl) z (blk11 NZ.out HP.out) (HM2.out.next NZ.out) (IT.out.next NZ.out) hmz HGI.out
  rw [List.length_cons, HL.out] at CK
  obtain ⟨CC, hCC⟩ : ∃ CC, Hid (CC = chkC lst false (gapZ 1 5 :: ms)) := ⟨_, rfl⟩
  rw [← hCC.out] at CK
  clear hmz hbz hN1
  go_wp2_with fail
  refine CK.mono ?_
  rintro e w3 ⟨rfl, hb⟩
  have N3 : Hid (Below w2.heap.size w2 w3) := Below.andThen NZ.out hb
  have B3 : Hid (Below w.heap.size w w3) := Below.andThen B2.out N3.out
  have ZM3 : Hid (MzAt w3 g' 0 (gapZ 1 5 :: ms)) := ZM.out.next hb
  clear CK hb
  by_cases hcc : CC = 0
  case neg =>
    go_wp2_with fail
    refine (HWK.out _ B3.out).mono ?_
    rintro e w9 ⟨rfl, hb⟩
    go_wp2_with fail
    go_ret
    exact ⟨rfl, hb⟩
  subst hcc
  by_cases hln : len2 < 1
  · have gln : (len2 : Int) < 1 := by omega
    go_wp2_with fail
    refine (HWK.out _ B3.out).mono ?_
    rintro e w9 ⟨rfl, hb⟩
    go_wp2_with fail
    go_ret
    exact ⟨rfl, hb⟩
  have gln : ¬ ((len2 : Int) < 1) := by omega
  obtain ⟨bb, bo, rfl, _⟩ := H2.out.at_ (by omega)
  have GA := gap_ahead lst mc zs 1 5 ms (by decide +kernel) (by rw [H2.out.size]; omega) hCC.out.symm
  have U1 := unpack_any P M 0 lst val (some ⟨g', 0, none⟩) g' 0 cap' (gapZ 1 5 :: ms) (fun _ => rfl) w3 (blk11 N3.out HP.out) (HM2.out.next N3.out) (IT.out.next N3.out) ZM3.out HGI.out hCC.out.symm (some ⟨bb, bo, none⟩) len2 cap2 zs (RW2.out.next N3.out) (by omega) mc (MC.out.next N3.out)
  rw [List.length_cons, HL.out, GA.2.1, GA.2.2] at U1
  have CK0 : Hid (chkC lst false ms = 0) := GA.1
  obtain ⟨RES, hRES⟩ : ∃ RES, Hid (RES = unR mc (zs.drop 1) (ms.map Mz.q)) := ⟨_, rfl⟩
  obtain ⟨ROW, hROW⟩ : ∃ ROW, Hid (ROW = unV (zs.drop 1) (ms.map Mz.q) 0) := ⟨_, rfl⟩
  obtain ⟨RW, hRW⟩ : ∃ RW, Hid (RW = if RES = 0 then ROW else []) := ⟨_, rfl⟩
  obtain ⟨L, hLL⟩ : ∃ L, Hid (L = RW.length) := ⟨_, rfl⟩
  rw [← hRES.out, ← hROW.out] at U1
  clear GA
  go_wp2_with fail
  refine U1.mono ?_
  rintro e w4 hU
  obtain ⟨va, vc, us, rfl, hus, hva, hv, hs, hb⟩ := hU.form RW hRW.out
  rw [← hLL.out] at hva hus ⊢
  have N4 : Hid (Below w2.heap.size w2 w4) := Below.andThen N3.out hb
  have V4 : Hid (IsV w4 w3.heap.size (.slice va us.length vc) us) := hv
  have S4 : Hid (Vs w4 w3.heap.size us RW) := hs
  have L4 : Hid (us.length = L) := hus
  have VA : Hid (0 < L → ∃ g, va = some ⟨g, 0, none⟩) := hva
  clear U1 hU hv hs hb hus hva
  have sl : ∀ W, (Instr.sliceAt 24 (.slice (some ⟨bb, bo, none⟩) len2 cap2) (some (.int .i64 1)) none none).run Tryd.prog W = .ok (.slice (some ⟨bb, if cap2 = 1 then bo else bo + 1, none⟩) (len2 - 1) (cap2 - 1)) W := fun W => by
    rw [run_sliceAt_slice (P := Tryd.prog) W 24 _ _ _ _ Tryd.underlying24, run_slice_l (P := Tryd.prog) W 24 _ _ _ Tryd.underlying24 .i64 1 (by decide) (by omega)]
    have e : (sizeOf (Tryd.prog.elem 24)).run Tryd.prog W = .ok 1 W := by kernel_rfl
    rw [e]
    by_cases hq : cap2 = 1 <;> simp [Result.andThen, sliced, hq, Addr.add]
  obtain ⟨a3, ha3⟩ : ∃ a3, Hid (a3 = (if cap2 = 1 then bo else bo + 1)) := ⟨_, rfl⟩
  rw [← ha3.out] at sl
  have U2 := unpack_any P M 0 lst val a1 g off cap1 ms HAD.out w4 (blk11 N4.out HP.out) (HM2.out.next N4.out) (IT.out.next N4.out) ((HM.out.next B2.out).next N4.out) HI.out CK0.out (some ⟨bb, a3, none⟩) (len2 - 1) (cap2 - 1) (zs.drop 1) ((RW2.out.next N4.out).dropA 1 _ (fun hlt => by rw [ha3.out, if_neg (by omega)])) (by omega) mc (MC.out.next N4.out)
  rw [HL.out, ← hRES.out, ← hROW.out] at U2
  go_wp2_with fail
  refine U2.mono ?_
  rintro e w5 hU
  obtain ⟨ya, yc, ys, rfl, hus, hva, hv, hs, hb⟩ := hU.form RW hRW.out
  rw [← hLL.out] at hva hus ⊢
  have B5 : Hid (Below w.heap.size w w5) := Below.andThen (Below.andThen B2.out N4.out) hb
  have V5 : Hid (IsV w5 w4.heap.size (.slice ya ys.length yc) ys) := hv
  have S5 : Hid (Vs w5 w4.heap.size ys RW) := hs
  have L5 : Hid (ys.length = L) := hus
  have YA : Hid (0 < L → ∃ g, ya = some ⟨g, 0, none⟩) := hva
  have V45 : Hid (IsV w5 w3.heap.size (.slice va us.length vc) us) := V4.out.next hb
  have S45 : Hid (Vs w5 w3.heap.size us RW) := S4.out.mv fun g' C hg' => blk11 hb hg'
  clear U2 hU hv hs hb hus hva sl
  have hL64 : L ≤ 64 := by
    have h1 := unV_len (zs.drop 1) (ms.map Mz.q) 0
    have h2 := (chkC_zeroB CK0.out).1
    rw [List.length_map] at h1
    have h3 : RW.length ≤ ROW.length := by rw [hRW.out]; split <;> simp
    rw [← hROW.out] at h1
    rw [hLL.out]
    omega
  have OCT : Hid (∀ r ∈ RW, Oct r.2.2) := fun r hr => by
    rw [hRW.out] at hr
    split at hr
    · rw [hROW.out] at hr
      exact unV_oct (fun x hx => RW2.out.oct x (List.mem_of_mem_drop hx)) _ _ r hr
    · cases hr
  clear hRW hROW hRES
  go_wp2_with fail
  go_loopw [18] (fun iv wr => ∃ k : Nat, k ≤ L ∧ iv = .int .i64 (k : Int) ∧ Hid (Below w5.heap.size w5 wr)) (fun iv _ => L - (intOf iv).toNat)
  case atStart => exact ⟨0, Nat.zero_le _, rfl, Below.refl _ _⟩
  case round =>
    obtain ⟨k, hk, rfl, BR⟩ := hrel
    by_cases hkL : k < L
    · have gk : (k : Int) < (L : Int) := by omega
      have gk0 : (0 : Int) ≤ (k : Int) := by omega
      obtain ⟨gx, rfl⟩ := VA.out (by omega)
      obtain ⟨gy, rfl⟩ := YA.out (by omega)
      obtain ⟨rr, hrr⟩ : ∃ rr, RW[k]? = some rr := ⟨_, List.getElem?_eq_getElem (by have := hLL.out; omega)⟩
      obtain ⟨ri, rs, rz⟩ := rr
      obtain ⟨p1, q1, _, o1⟩ := S45.out.2 k _ hrr
      obtain ⟨p2, q2, _, o2⟩ := S5.out.2 k _ hrr
      have OZ : Hid (Oct rz) := OCT.out _ (List.mem_of_getElem? hrr)
      obtain ⟨c0, c1, c2⟩ := V45.out.at k _ q1
      obtain ⟨d0, d1, d2⟩ := V5.out.at k _ q2
      have B := BR.out
      have c0 := (B.cell (block_lt_of_cell c0)).trans c0
      have c1 := (B.cell (block_lt_of_cell c1)).trans c1
      have c2 := (B.cell (block_lt_of_cell c2)).trans c2
      have d0 := (B.cell (block_lt_of_cell d0)).trans d0
      have d1 := (B.cell (block_lt_of_cell d1)).trans d1
      have d2 := (B.cell (block_lt_of_cell d2)).trans d2
      have s1 := fun n => ((row_own rfl OZ.out (blk11 B o1)).next (below_drewN (Below.refl _ _) n)).str rz.length
      have s2 := fun n => ((row_own rfl OZ.out (blk11 B o2)).next (below_drewN (Below.refl _ _) n)).str rz.length
      obtain ⟨rn, hrn⟩ : ∃ rn, Hid (rn = rz.length) := ⟨_, rfl⟩
      dsimp only at c0 c1 c2 d0 d1 d2 s1 s2
      rw [← hrn.out] at c2 d2 s1 s2
      obtain ⟨st, hst⟩ : ∃ st, Hid (st = strOfNums rz) := ⟨_, rfl⟩
      rw [← hst.out] at s1 s2
      have ne := nePl ri rs
      have wk : IntKind.i64.wrap ((k : Int) + 1) = ((k + 1 : Nat) : Int) := by rw [IntKind.wrap_i64]; omega
      clear hrr q1 q2 o1 o2 B
      go_wp2_with fail
      go_quiet (fail)
      go_wp2_with fail
      exact ⟨⟨k + 1, by omega, by go_num, ⟨BR.out.os, BR.out.tape, BR.out.output, BR.out.size, BR.out.block⟩⟩, by simp [intOf]; omega⟩
    · obtain rfl : k = L := by omega
      have B6 : Hid (Below w.heap.size w wr) := Below.andThen B5.out BR.out
      go_wp2_with fail
      refine (HWK.out _ B6.out).mono ?_
      rintro e w9 ⟨rfl, hb⟩
      go_wp2_with fail
      go_ret
      exact ⟨rfl, hb⟩
set_option linter.unusedSimpArgs false in
set_option maxHeartbeats 4000000 in
set_option maxRecDepth 100000 in
theorem mappingGaps_1 {w : World} {a0 : Option Addr} {len0 : Nat} {es : List Em} (h0 : IsEn w a0 len0 es) (cap0 : Nat) (lm0 : len0 ≤ maxLen) {a1 : Option Addr} {len1 : Nat} {ms : List Mz} (h1 : IsMz w a1 len1 ms) (cap1 : Nat) {a2 : Option Addr} {len2 : Nat} {zs : List Int} (h2 : Row w a2 len2 zs) (cap2 : Nat) (hc2 : len2 ≤ cap2) (wh : Int) (hw0 : 0 ≤ wh) (hw3 : wh % 3 = 1) (hT : Ty.Tab64 w) :
    Calls Tryd.prog 3 #[.slice a0 len0 cap0, .slice a1 len1 cap1, .slice a2 len2 cap2, .int .u8 wh] w fun e w' => e = .returned (.bool true) ∧ Below w.heap.size w w' := by
  have HT : Hid (Ty.Tab64 w) := hT
  have HS := size12 h0 cap0 lm0
  have H0 : Hid (IsEn w a0 len0 es) := h0
  have H1 : Hid (IsMz w a1 len1 ms) := h1
  have H2 : Hid (Row w a2 len2 zs) := h2
  have HWK : Hid (∀ W, Below w.heap.size w W → Calls Tryd.prog 6 #[] W fun e w' => e = .returned (.bool true) ∧ Below w.heap.size w w') := fun W hb => (works12 W (tab_next hT hb)).mono fun e w' ⟨h1, h2⟩ => ⟨h1, Below.andThen hb h2⟩
  have ht3 : wh.tmod 3 = 1 := by rw [Int.tmod_eq_emod_of_nonneg hw0]; exact hw3
  clear h0 h1 h2 hT
  go_enter Tryd.func3, Tryd.ntmps3
  go_wp2_with fail
  refine HS.mono ?_
  rintro e w1 ⟨sz, rfl, hn, hf, hb⟩
  have B1 : Hid (Below w.heap.size w w1) := hb
  have HF : Hid (sz ≤ 5000 → len0 ≤ 5000 ∧ ∀ e ∈ es, e.ld ≤ 5000 ∧ e.ll ≤ 5000 ∧ e.lh ≤ 5000) := hf
  clear HS hf hb
  by_cases hn5 : 5000 < sz
  · have gn : (5000 : Int) < (sz : Int) := by omega
    go_wp2_with fail
    refine (HWK.out _ B1.out).mono ?_
    rintro e w9 ⟨rfl, hb⟩
    go_wp2_with fail
    go_ret
    exact ⟨rfl, hb⟩
  have gn : ¬ ((5000 : Int) < (sz : Int)) := by omega
  by_cases hl1 : 60 < len1
  · have gl : (60 : Int) < (len1 : Int) := by omega
    go_wp2_with fail
    refine (HWK.out _ B1.out).mono ?_
    rintro e w9 ⟨rfl, hb⟩
    go_wp2_with fail
    go_ret
    exact ⟨rfl, hb⟩
  have gl : ¬ ((60 : Int) < (len1 : Int)) := by omega
  by_cases hm2 : 100 < len2
  · have gm : (100 : Int) < (len2 : Int) := by omega
    go_wp2_with fail
    refine (HWK.out _ B1.out).mono ?_
    rintro e w9 ⟨rfl, hb⟩
    go_wp2_with fail
    go_ret
    exact ⟨rfl, hb⟩
  have gm : ¬ ((100 : Int) < (len2 : Int)) := by omega
  have hF := HF.out (by omega)
  obtain ⟨eb, eo, had0, hat0⟩ : ∃ b off, (0 < es.length → a0 = some ⟨b, off, none⟩) ∧ ∀ (k : Nat) (e : Em), es[k]? = some e → EmAtO w1 b off k e := by
    by_cases hz : 0 < len0
    · obtain ⟨b, off, e, h⟩ := H0.out.at_ hz
      refine ⟨b, off, fun _ => e, fun k x hx => ?_⟩
      have B := B1.out
      obtain ⟨m0, m1, m2, m3, m4, m5, m6, m7, m8, m9⟩ := h k x hx
      exact ⟨(B.cell (block_lt_of_cell m0)).trans m0, (B.cell (block_lt_of_cell m1)).trans m1, (B.cell (block_lt_of_cell m2)).trans m2, (B.cell (block_lt_of_cell m3)).trans m3, (B.cell (block_lt_of_cell m4)).trans m4, (B.cell (block_lt_of_cell m5)).trans m5, (B.cell (block_lt_of_cell m6)).trans m6, (B.cell (block_lt_of_cell m7)).trans m7, (B.cell (block_lt_of_cell m8)).trans m8, (B.cell (block_lt_of_cell m9)).trans m9⟩
    · have hs := H0.out.size
      refine ⟨0, 0, fun h => by omega, fun k x hx => ?_⟩
      have := (List.getElem?_eq_some_iff.1 hx).1
      omega
  have hin : ∀ e ∈ es, EmIn w1 e := fun e he => by
    have a := (H0.out.ok e he).next B1.out
    have b := hF.2 e he
    exact ⟨a.rd, a.rl, a.rh, by omega, by omega, by omega⟩
  have HIN : Hid (∀ e ∈ es, EmIn w1 e) := hin
  have NW := new_any a0 eb eo cap0 es w1 had0 hin hat0 (tab_next HT.out B1.out)
  rw [H0.out.size] at NW
  obtain ⟨g, off, had1, hM1⟩ : ∃ b off, (0 < ms.length → a1 = some ⟨b, off, none⟩) ∧ MzAt w b off ms := by
    by_cases hz : 0 < len1
    · obtain ⟨b, off, e, h⟩ := H1.out.at_ hz
      exact ⟨b, off, fun _ => e, h⟩
    · have hs := H1.out.size
      refine ⟨0, 0, fun h => by omega, fun k x hx => ?_⟩
      have := (List.getElem?_eq_some_iff.1 hx).1
      omega
  have HAD : Hid (0 < ms.length → a1 = some ⟨g, off, none⟩) := had1
  have HM : Hid (MzAt w g off ms) := hM1
  have HI : Hid (∀ x ∈ ms, 0 ≤ x.i ∧ x.i < 65536) := H1.out.ok
  have HL : Hid (ms.length = len1) := H1.out.size
  clear HF hF had0 hat0 hin had1 hM1
  go_wp2_with fail
  refine NW.mono ?_
  rintro e w2 (⟨hc, lst, rfl, hb, hp, hm, hbu⟩ | ⟨hc, rfl, hb⟩)
  case inr =>
    have B2 : Hid (Below w.heap.size w w2) := Below.andThen B1.out hb
    have hc' : ¬ newC es = 0 := hc
    clear NW hb
    go_wp2_with fail
    refine (HWK.out _ B2.out).mono ?_
    rintro e w9 ⟨rfl, hb⟩
    go_wp2_with fail
    go_ret
    exact ⟨rfl, hb⟩
  have B2 : Hid (Below w.heap.size w w2) := Below.andThen B1.out hb
  obtain ⟨val, hval⟩ : ∃ val, Hid (val = valE es) := ⟨_, rfl⟩
  have IT : Hid (ItOk w2 lst val) := by show ItOk _ _ _; rw [hval.out]; exact built_items hbu hc HIN.out
  obtain ⟨P, hP⟩ : ∃ P, Hid (P = w1.heap.size + 1) := ⟨_, rfl⟩
  obtain ⟨M, hMM⟩ : ∃ M, Hid (M = w1.heap.size) := ⟨_, rfl⟩
  rw [← hP.out, ← hMM.out] at hp
  rw [← hMM.out] at hm
  rw [← hP.out]
  have HP : Hid (w2.heap[P]? = some (.cells #[.map (some M), .int .i64 0] 61 (0, 0))) := hp
  have HM2 : Hid (IsM w2 M lst) := hm
  obtain ⟨mc, hmc⟩ := may_all P M 0 lst val w2 hp hm IT.out (tab_next HT.out B2.out)
  have MC : Hid (MayC P lst w2 mc) := hmc
  clear NW hb hp hm hbu hc HIN hval hmc HT
  have RW2 : Hid (Row w2 a2 len2 zs) := H2.out.next B2.out
  have hN1 := HL.out
  have HGI : Hid (∀ x ∈ gapZ 2 6 :: ms, 0 ≤ x.i ∧ x.i < 65536) := fun x hx => by
    rcases List.mem_cons.1 hx with rfl | hx
    · exact ⟨by decide, by decide⟩
    · exact HI.out x hx
  go_wp2_with (first | (at_builtin; refine wpList_append_mz rfl _ _ rfl w2.heap.size w2.heap.size (Nat.le_refl _) (gapZ 2 6) rfl ?q1 a1 len1 cap1 ms rfl HL.out g off HAD.out ?q2 (by omega) ?q3 ?_) | go_in)
  case q1 => exact heap_new _ _
  case q2 => exact (HM.out.next B2.out).next (by repeat (first | exact Below.refl _ _ | apply Below.drew | apply Below.al))
  case q3 => simp
  intro g' cap' z hmz hbz
  have NZ : Hid (Below w2.heap.size w2 z) := ⟨hbz.os, hbz.tape, hbz.output, by have := hbz.size; simp at this; omega, fun k hk => (hbz.block k hk).trans (Below.heap_alloc _ _ _ hk)⟩
  have ZM : Hid (MzAt z g' 0 (gapZ 2 6 :: ms)) := hmz
  have CK := check_any false P M 0 lst val (some ⟨g', 0, none⟩) g' 0 cap' (gapZ 2 6 :: ms) (fun _ => rfl) z (blk11 NZ.out HP.out) (HM2.out.next NZ.out) (IT.out.next NZ.out) hmz HGI.out
  rw [List.length_cons, HL.out] at CK
  obtain ⟨CC, hCC⟩ : ∃ CC, Hid (CC = chkC lst false (gapZ 2 6 :: ms)) := ⟨_, rfl⟩
  rw [← hCC.out] at CK
  clear hmz hbz hN1
  go_wp2_with fail
  refine CK.mono ?_
  rintro e w3 ⟨rfl, hb⟩
  have N3 : Hid (Below w2.heap.size w2 w3) := Below.andThen NZ.out hb
  have B3 : Hid (Below w.heap.size w w3) := Below.andThen B2.out N3.out
  have ZM3 : Hid (MzAt w3 g' 0 (gapZ 2 6 :: ms)) := ZM.out.next hb
  clear CK hb
  by_cases hcc : CC = 0
  case neg =>
    go_wp2_with fail
    refine (HWK.out _ B3.out).mono ?_
    rintro e w9 ⟨rfl, hb⟩
    go_wp2_with fail
    go_ret
    exact ⟨rfl, hb⟩
  subst hcc
  by_cases hln : len2 < 2
  · have gln : (len2 : Int) < 2 := by omega
    go_wp2_with fail
    refine (HWK.out _ B3.out).mono ?_
    rintro e w9 ⟨rfl, hb⟩
    go_wp2_with fail
    go_ret
    exact ⟨rfl, hb⟩
  have gln : ¬ ((len2 : Int) < 2) := by omega
  obtain ⟨bb, bo, rfl, _⟩ := H2.out.at_ (by omega)
  have GA := gap_ahead lst mc zs 2 6 ms (by decide +kernel) (by rw [H2.out.size]; omega) hCC.out.symm
  have U1 := unpack_any P M 0 lst val (some ⟨g', 0, none⟩) g' 0 cap' (gapZ 2 6 :: ms) (fun _ => rfl) w3 (blk11 N3.out HP.out) (HM2.out.next N3.out) (IT.out.next N3.out) ZM3.out HGI.out hCC.out.symm (some ⟨bb, bo, none⟩) len2 cap2 zs (RW2.out.next N3.out) (by omega) mc (MC.out.next N3.out)
  rw [List.length_cons, HL.out, GA.2.1, GA.2.2] at U1
  have CK0 : Hid (chkC lst false ms = 0) := GA.1
  obtain ⟨RES, hRES⟩ : ∃ RES, Hid (RES = unR mc (zs.drop 2) (ms.map Mz.q)) := ⟨_, rfl⟩
  obtain ⟨ROW, hROW⟩ : ∃ ROW, Hid (ROW = unV (zs.drop 2) (ms.map Mz.q) 0) := ⟨_, rfl⟩
  obtain ⟨RW, hRW⟩ : ∃ RW, Hid (RW = if RES = 0 then ROW else []) := ⟨_, rfl⟩
  obtain ⟨L, hLL⟩ : ∃ L, Hid (L = RW.length) := ⟨_, rfl⟩
  rw [← hRES.out, ← hROW.out] at U1
  clear GA
  go_wp2_with fail
  refine U1.mono ?_
  rintro e w4 hU
  obtain ⟨va, vc, us, rfl, hus, hva, hv, hs, hb⟩ := hU.form RW hRW.out
  rw [← hLL.out] at hva hus ⊢
  have N4 : Hid (Below w2.heap.size w2 w4) := Below.andThen N3.out hb
  have V4 : Hid (IsV w4 w3.heap.size (.slice va us.length vc) us) := hv
  have S4 : Hid (Vs w4 w3.heap.size us RW) := hs
  have L4 : Hid (us.length = L) := hus
  have VA : Hid (0 < L → ∃ g, va = some ⟨g, 0, none⟩) := hva
  clear U1 hU hv hs hb hus hva
  have sl : ∀ W, (Instr.sliceAt 24 (.slice (some ⟨bb, bo, none⟩) len2 cap2) (some (.int .i64 2)) none none).run Tryd.prog W = .ok (.slice (some ⟨bb, if cap2 = 2 then bo else bo + 2, none⟩) (len2 - 2) (cap2 - 2)) W := fun W => by
    rw [run_sliceAt_slice (P := Tryd.prog) W 24 _ _ _ _ Tryd.underlying24, run_slice_l (P := Tryd.prog) W 24 _ _ _ Tryd.underlying24 .i64 2 (by decide) (by omega)]
    have e : (sizeOf (Tryd.prog.elem 24)).run Tryd.prog W = .ok 1 W := by kernel_rfl
    rw [e]
    by_cases hq : cap2 = 2 <;> simp [Result.andThen, sliced, hq, Addr.add]
  obtain ⟨a3, ha3⟩ : ∃ a3, Hid (a3 = (if cap2 = 2 then bo else bo + 2)) := ⟨_, rfl⟩
  rw [← ha3.out] at sl
  have U2 := unpack_any P M 0 lst val a1 g off cap1 ms HAD.out w4 (blk11 N4.out HP.out) (HM2.out.next N4.out) (IT.out.next N4.out) ((HM.out.next B2.out).next N4.out) HI.out CK0.out (some ⟨bb, a3, none⟩) (len2 - 2) (cap2 - 2) (zs.drop 2) ((RW2.out.next N4.out).dropA 2 _ (fun hlt => by rw [ha3.out, if_neg (by omega)])) (by omega) mc (MC.out.next N4.out)
  rw [HL.out, ← hRES.out, ← hROW.out] at U2
  go_wp2_with fail
  refine U2.mono ?_
  rintro e w5 hU
  obtain ⟨ya, yc, ys, rfl, hus, hva, hv, hs, hb⟩ := hU.form RW hRW.out
  rw [← hLL.out] at hva hus ⊢
  have B5 : Hid (Below w.heap.size w w5) := Below.andThen (Below.andThen B2.out N4.out) hb
  have V5 : Hid (IsV w5 w4.heap.size (.slice ya ys.length yc) ys) := hv
  have S5 : Hid (Vs w5 w4.heap.size ys RW) := hs
  have L5 : Hid (ys.length = L) := hus
  have YA : Hid (0 < L → ∃ g, ya = some ⟨g, 0, none⟩) := hva
  have V45 : Hid (IsV w5 w3.heap.size (.slice va us.length vc) us) := V4.out.next hb
  have S45 : Hid (Vs w5 w3.heap.size us RW) := S4.out.mv fun g' C hg' => blk11 hb hg'
  clear U2 hU hv hs hb hus hva sl
  have hL64 : L ≤ 64 := by
    have h1 := unV_len (zs.drop 2) (ms.map Mz.q) 0
    have h2 := (chkC_zeroB CK0.out).1
    rw [List.length_map] at h1
    have h3 : RW.length ≤ ROW.length := by rw [hRW.out]; split <;> simp
    rw [← hROW.out] at h1
    rw [hLL.out]
    omega
  have OCT : Hid (∀ r ∈ RW, Oct r.2.2) := fun r hr => by
    rw [hRW.out] at hr
    split at hr
    · rw [hROW.out] at hr
      exact unV_oct (fun x hx => RW2.out.oct x (List.mem_of_mem_drop hx)) _ _ r hr
    · cases hr
  clear hRW hROW hRES
  go_wp2_with fail
  go_loopw [18] (fun iv wr => ∃ k : Nat, k ≤ L ∧ iv = .int .i64 (k : Int) ∧ Hid (Below w5.heap.size w5 wr)) (fun iv _ => L - (intOf iv).toNat)
  case atStart => exact ⟨0, Nat.zero_le _, rfl, Below.refl _ _⟩
  case round =>
    obtain ⟨k, hk, rfl, BR⟩ := hrel
    by_cases hkL : k < L
    · have gk : (k : Int) < (L : Int) := by omega
      have gk0 : (0 : Int) ≤ (k : Int) := by omega
      obtain ⟨gx, rfl⟩ := VA.out (by omega)
      obtain ⟨gy, rfl⟩ := YA.out (by omega)
      obtain ⟨rr, hrr⟩ : ∃ rr, RW[k]? = some rr := ⟨_, List.getElem?_eq_getElem (by have := hLL.out; omega)⟩
      obtain ⟨ri, rs, rz⟩ := rr
      obtain ⟨p1, q1, _, o1⟩ := S45.out.2 k _ hrr
      obtain ⟨p2, q2, _, o2⟩ := S5.out.2 k _ hrr
      have OZ : Hid (Oct rz) := OCT.out _ (List.mem_of_getElem? hrr)
      obtain ⟨c0, c1, c2⟩ := V45.out.at k _ q1
      obtain ⟨d0, d1, d2⟩ := V5.out.at k _ q2
      have B := BR.out
      have c0 := (B.cell (block_lt_of_cell c0)).trans c0
      have c1 := (B.cell (block_lt_of_cell c1)).trans c1
      have c2 := (B.cell (block_lt_of_cell c2)).trans c2
      have d0 := (B.cell (block_lt_of_cell d0)).trans d0
      have d1 := (B.cell (block_lt_of_cell d1)).trans d1
      have d2 := (B.cell (block_lt_of_cell d2)).trans d2
      have s1 := fun n => ((row_own rfl OZ.out (blk11 B o1)).next (below_drewN (Below.refl _ _) n)).str rz.length
      have s2 := fun n => ((row_own rfl OZ.out (blk11 B o2)).next (below_drewN (Below.refl _ _) n)).str rz.length
      obtain ⟨rn, hrn⟩ : ∃ rn, Hid (rn = rz.length) := ⟨_, rfl⟩
      dsimp only at c0 c1 c2 d0 d1 d2 s1 s2
      rw [← hrn.out] at c2 d2 s1 s2
      obtain ⟨st, hst⟩ : ∃ st, Hid (st = strOfNums rz) := ⟨_, rfl⟩
      rw [← hst.out] at s1 s2
      have ne := nePl ri rs
      have wk : IntKind.i64.wrap ((k : Int) + 1) = ((k + 1 : Nat) : Int) := by rw [IntKind.wrap_i64]; omega
      clear hrr q1 q2 o1 o2 B
      go_wp2_with fail
      go_quiet (fail)
      go_wp2_with fail
      exact ⟨⟨k + 1, by omega, by go_num, ⟨BR.out.os, BR.out.tape, BR.out.output, BR.out.size, BR.out.block⟩⟩, by simp [intOf]; omega⟩
    · obtain rfl : k = L := by omega
      have B6 : Hid (Below w.heap.size w wr) := Below.andThen B5.out BR.out
      go_wp2_with fail
      refine (HWK.out _ B6.out).mono ?_
      rintro e w9 ⟨rfl, hb⟩
      go_wp2_with fail
      go_ret
      exact ⟨rfl, hb⟩
set_option linter.unusedSimpArgs false in
set_option maxHeartbeats 4000000 in
set_option maxRecDepth 100000 in
theorem mappingGaps_2 {w : World} {a0 : Option Addr} {len0 : Nat} {es : List Em} (h0 : IsEn w a0 len0 es) (cap0 : Nat) (lm0 : len0 ≤ maxLen) {a1 : Option Addr} {len1 : Nat} {ms : List Mz} (h1 : IsMz w a1 len1 ms) (cap1 : Nat) {a2 : Option Addr} {len2 : Nat} {zs : List Int} (h2 : Row w a2 len2 zs) (cap2 : Nat) (hc2 : len2 ≤ cap2) (wh : Int) (hw0 : 0 ≤ wh) (hw3 : wh % 3 = 2) (hT : Ty.Tab64 w) :
    Calls Tryd.prog 3 #[.slice a0 len0 cap0, .slice a1 len1 cap1, .slice a2 len2 cap2, .int .u8 wh] w fun e w' => e = .returned (.bool true) ∧ Below w.heap.size w w' := by
  have HT : Hid (Ty.Tab64 w) := hT
  have HS := size12 h0 cap0 lm0
  have H0 : Hid (IsEn w a0 len0 es) := h0
  have H1 : Hid (IsMz w a1 len1 ms) := h1
  have H2 : Hid (Row w a2 len2 zs) := h2
  have HWK : Hid (∀ W, Below w.heap.size w W → Calls Tryd.prog 6 #[] W fun e w' => e = .returned (.bool true) ∧ Below w.heap.size w w') := fun W hb => (works12 W (tab_next hT hb)).mono fun e w' ⟨h1, h2⟩ => ⟨h1, Below.andThen hb h2⟩
  have ht3 : wh.tmod 3 = 2 := by rw [Int.tmod_eq_emod_of_nonneg hw0]; exact hw3
  clear h0 h1 h2 hT
  go_enter Tryd.func3, Tryd.ntmps3
  go_wp2_with fail
  refine HS.mono ?_
  rintro e w1 ⟨sz, rfl, hn, hf, hb⟩
  have B1 : Hid (Below w.heap.size w w1) := hb
  have HF : Hid (sz ≤ 5000 → len0 ≤ 5000 ∧ ∀ e ∈ es, e.ld ≤ 5000 ∧ e.ll ≤ 5000 ∧ e.lh ≤ 5000) := hf
  clear HS hf hb
  by_cases hn5 : 5000 < sz
  · have gn : (5000 : Int) < (sz : Int) := by omega
    go_wp2_with fail
    refine (HWK.out _ B1.out).mono ?_
    rintro e w9 ⟨rfl, hb⟩
    go_wp2_with fail
    go_ret
    exact ⟨rfl, hb⟩
  have gn : ¬ ((5000 : Int) < (sz : Int)) := by omega
  by_cases hl1 : 60 < len1
  · have gl : (60 : Int) < (len1 : Int) := by omega
    go_wp2_with fail
    refine (HWK.out _ B1.out).mono ?_
    rintro e w9 ⟨rfl, hb⟩
    go_wp2_with fail
    go_ret
    exact ⟨rfl, hb⟩
  have gl : ¬ ((60 : Int) < (len1 : Int)) := by omega
  by_cases hm2 : 100 < len2
  · have gm : (100 : Int) < (len2 : Int) := by omega
    go_wp2_with fail
    refine (HWK.out _ B1.out).mono ?_
    rintro e w9 ⟨rfl, hb⟩
    go_wp2_with fail
    go_ret
    exact ⟨rfl, hb⟩
  have gm : ¬ ((100 : Int) < (len2 : Int)) := by omega
  have hF := HF.out (by omega)
  obtain ⟨eb, eo, had0, hat0⟩ : ∃ b off, (0 < es.length → a0 = some ⟨b, off, none⟩) ∧ ∀ (k : Nat) (e : Em), es[k]? = some e → EmAtO w1 b off k e := by
    by_cases hz : 0 < len0
    · obtain ⟨b, off, e, h⟩ := H0.out.at_ hz
      refine ⟨b, off, fun _ => e, fun k x hx => ?_⟩
      have B := B1.out
      obtain ⟨m0, m1, m2, m3, m4, m5, m6, m7, m8, m9⟩ := h k x hx
      exact ⟨(B.cell (block_lt_of_cell m0)).trans m0, (B.cell (block_lt_of_cell m1)).trans m1, (B.cell (block_lt_of_cell m2)).trans m2, (B.cell (block_lt_of_cell m3)).trans m3, (B.cell (block_lt_of_cell m4)).trans m4, (B.cell (block_lt_of_cell m5)).trans m5, (B.cell (block_lt_of_cell m6)).trans m6, (B.cell (block_lt_of_cell m7)).trans m7, (B.cell (block_lt_of_cell m8)).trans m8, (B.cell (block_lt_of_cell m9)).trans m9⟩
    · have hs := H0.out.size
      refine ⟨0, 0, fun h => by omega, fun k x hx => ?_⟩
      have := (List.getElem?_eq_some_iff.1 hx).1
      omega
  have hin : ∀ e ∈ es, EmIn w1 e := fun e he => by
    have a := (H0.out.ok e he).next B1.out
    have b := hF.2 e he
    exact ⟨a.rd, a.rl, a.rh, by omega, by omega, by omega⟩
  have HIN : Hid (∀ e ∈ es, EmIn w1 e) := hin
  have NW := new_any a0 eb eo cap0 es w1 had0 hin hat0 (tab_next HT.out B1.out)
  rw [H0.out.size] at NW
  obtain ⟨g, off, had1, hM1⟩ : ∃ b off, (0 < ms.length → a1 = some ⟨b, off, none⟩) ∧ MzAt w b off ms := by
    by_cases hz : 0 < len1
    · obtain ⟨b, off, e, h⟩ := H1.out.at_ hz
      exact ⟨b, off, fun _ => e, h⟩
    · have hs := H1.out.size
      refine ⟨0, 0, fun h => by omega, fun k x hx => ?_⟩
      have := (List.getElem?_eq_some_iff.1 hx).1
      omega
  have HAD : Hid (0 < ms.length → a1 = some ⟨g, off, none⟩) := had1
  have HM : Hid (MzAt w g off ms) := hM1
  have HI : Hid (∀ x ∈ ms, 0 ≤ x.i ∧ x.i < 65536) := H1.out.ok
  have HL : Hid (ms.length = len1) := H1.out.size
  clear HF hF had0 hat0 hin had1 hM1
  go_wp2_with fail
  refine NW.mono ?_
  rintro e w2 (⟨hc, lst, rfl, hb, hp, hm, hbu⟩ | ⟨hc, rfl, hb⟩)
  case inr =>
    have B2 : Hid (Below w.heap.size w w2) := Below.andThen B1.out hb
    have hc' : ¬ newC es = 0 := hc
    clear NW hb
    go_wp2_with fail
    refine (HWK.out _ B2.out).mono ?_
    rintro e w9 ⟨rfl, hb⟩
    go_wp2_with fail
    go_ret
    exact ⟨rfl, hb⟩
  have B2 : Hid (Below w.heap.size w w2) := Below.andThen B1.out hb
  obtain ⟨val, hval⟩ : ∃ val, Hid (val = valE es) := ⟨_, rfl⟩
  have IT : Hid (ItOk w2 lst val) := by show ItOk _ _ _; rw [hval.out]; exact built_items hbu hc HIN.out
  obtain ⟨P, hP⟩ : ∃ P, Hid (P = w1.heap.size + 1) := ⟨_, rfl⟩
  obtain ⟨M, hMM⟩ : ∃ M, Hid (M = w1.heap.size) := ⟨_, rfl⟩
  rw [← hP.out, ← hMM.out] at hp
  rw [← hMM.out] at hm
  rw [← hP.out]
  have HP : Hid (w2.heap[P]? = some (.cells #[.map (some M), .int .i64 0] 61 (0, 0))) := hp
  have HM2 : Hid (IsM w2 M lst) := hm
  obtain ⟨mc, hmc⟩ := may_all P M 0 lst val w2 hp hm IT.out (tab_next HT.out B2.out)
  have MC : Hid (MayC P lst w2 mc) := hmc
  clear NW hb hp hm hbu hc HIN hval hmc HT
  have RW2 : Hid (Row w2 a2 len2 zs) := H2.out.next B2.out
  have hN1 := HL.out
  have HGI : Hid (∀ x ∈ gapZ 4 7 :: ms, 0 ≤ x.i ∧ x.i < 65536) := fun x hx => by
    rcases List.mem_cons.1 hx with rfl | hx
    · exact ⟨by decide, by decide⟩
    · exact HI.out x hx
  go_wp2_with (first | (at_builtin; refine wpList_append_mz rfl _ _ rfl w2.heap.size w2.heap.size (Nat.le_refl _) (gapZ 4 7) rfl ?q1 a1 len1 cap1 ms rfl HL.out g off HAD.out ?q2 (by omega) ?q3 ?_) | go_in)
  case q1 => exact heap_new _ _
  case q2 => exact (HM.out.next B2.out).next (by repeat (first | exact Below.refl _ _ | apply Below.drew | apply Below.al))
  case q3 => simp
  intro g' cap' z hmz hbz
  have NZ : Hid (Below w2.heap.size w2 z) := ⟨hbz.os, hbz.tape, hbz.output, by have := hbz.size; simp at this; omega, fun k hk => (hbz.block k hk).trans (Below.heap_alloc _ _ _ hk)⟩
  have ZM : Hid (MzAt z g' 0 (gapZ 4 7 :: ms)) := hmz
  have CK := check_any false P M 0 lst val (some ⟨g', 0, none⟩) g' 0 cap' (gapZ 4 7 :: ms) (fun _ => rfl) z (blk11 NZ.out HP.out) (HM2.out.next NZ.out) (IT.out.next NZ.out) hmz HGI.out
  rw [List.length_cons, HL.out] at CK
  obtain ⟨CC, hCC⟩ : ∃ CC, Hid (CC = chkC lst false (gapZ 4 7 :: ms)) := ⟨_, rfl⟩
  rw [← hCC.out] at CK
  clear hmz hbz hN1
  go_wp2_with fail
  refine CK.mono ?_
  rintro e w3 ⟨rfl, hb⟩
  have N3 : Hid (Below w2.heap.size w2 w3) := Below.andThen NZ.out hb
  have B3 : Hid (Below w.heap.size w w3) := Below.andThen B2.out N3.out
  have ZM3 : Hid (MzAt w3 g' 0 (gapZ 4 7 :: ms)) := ZM.out.next hb
  clear CK hb
  by_cases hcc : CC = 0
  case neg =>
    go_wp2_with fail
    refine (HWK.out _ B3.out).mono ?_
    rintro e w9 ⟨rfl, hb⟩
    go_wp2_with fail
    go_ret
    exact ⟨rfl, hb⟩
  subst hcc
  by_cases hln : len2 < 4
  · have gln : (len2 : Int) < 4 := by omega
    go_wp2_with fail
    refine (HWK.out _ B3.out).mono ?_
    rintro e w9 ⟨rfl, hb⟩
    go_wp2_with fail
    go_ret
    exact ⟨rfl, hb⟩
  have gln : ¬ ((len2 : Int) < 4) := by omega
  obtain ⟨bb, bo, rfl, _⟩ := H2.out.at_ (by omega)
  have GA := gap_ahead lst mc zs 4 7 ms (by decide +kernel) (by rw [H2.out.size]; omega) hCC.out.symm
  have U1 := unpack_any P M 0 lst val (some ⟨g', 0, none⟩) g' 0 cap' (gapZ 4 7 :: ms) (fun _ => rfl) w3 (blk11 N3.out HP.out) (HM2.out.next N3.out) (IT.out.next N3.out) ZM3.out HGI.out hCC.out.symm (some ⟨bb, bo, none⟩) len2 cap2 zs (RW2.out.next N3.out) (by omega) mc (MC.out.next N3.out)
  rw [List.length_cons, HL.out, GA.2.1, GA.2.2] at U1
  have CK0 : Hid (chkC lst false ms = 0) := GA.1
  obtain ⟨RES, hRES⟩ : ∃ RES, Hid (RES = unR mc (zs.drop 4) (ms.map Mz.q)) := ⟨_, rfl⟩
  obtain ⟨ROW, hROW⟩ : ∃ ROW, Hid (ROW = unV (zs.drop 4) (ms.map Mz.q) 0) := ⟨_, rfl⟩
  obtain ⟨RW, hRW⟩ : ∃ RW, Hid (RW = if RES = 0 then ROW else []) := ⟨_, rfl⟩
  obtain ⟨L, hLL⟩ : ∃ L, Hid (L = RW.length) := ⟨_, rfl⟩
  rw [← hRES.out, ← hROW.out] at U1
  clear GA
  go_wp2_with fail
  refine U1.mono ?_
  rintro e w4 hU
  obtain ⟨va, vc, us, rfl, hus, hva, hv, hs, hb⟩ := hU.form RW hRW.out
  rw [← hLL.out] at hva hus ⊢
  have N4 : Hid (Below w2.heap.size w2 w4) := Below.andThen N3.out hb
  have V4 : Hid (IsV w4 w3.heap.size (.slice va us.length vc) us) := hv
  have S4 : Hid (Vs w4 w3.heap.size us RW) := hs
  have L4 : Hid (us.length = L) := hus
  have VA : Hid (0 < L → ∃ g, va = some ⟨g, 0, none⟩) := hva
  clear U1 hU hv hs hb hus hva
  have sl : ∀ W, (Instr.sliceAt 24 (.slice (some ⟨bb, bo, none⟩) len2 cap2) (some (.int .i64 4)) none none).run Tryd.prog W = .ok (.slice (some ⟨bb, if cap2 = 4 then bo else bo + 4, none⟩) (len2 - 4) (cap2 - 4)) W := fun W => by
    rw [run_sliceAt_slice (P := Tryd.prog) W 24 _ _ _ _ Tryd.underlying24, run_slice_l (P := Tryd.prog) W 24 _ _ _ Tryd.underlying24 .i64 4 (by decide) (by omega)]
    have e : (sizeOf (Tryd.prog.elem 24)).run Tryd.prog W = .ok 1 W := by kernel_rfl
    rw [e]
    by_cases hq : cap2 = 4 <;> simp [Result.andThen, sliced, hq, Addr.add]
  obtain ⟨a3, ha3⟩ : ∃ a3, Hid (a3 = (if cap2 = 4 then bo else bo + 4)) := ⟨_, rfl⟩
  rw [← ha3.out] at sl
  have U2 := unpack_any P M 0 lst val a1 g off cap1 ms HAD.out w4 (blk11 N4.out HP.out) (HM2.out.next N4.out) (IT.out.next N4.out) ((HM.out.next B2.out).next N4.out) HI.out CK0.out (some ⟨bb, a3, none⟩) (len2 - 4) (cap2 - 4) (zs.drop 4) ((RW2.out.next N4.out).dropA 4 _ (fun hlt => by rw [ha3.out, if_neg (by omega)])) (by omega) mc (MC.out.next N4.out)
  rw [HL.out, ← hRES.out, ← hROW.out] at U2
  go_wp2_with fail
  refine U2.mono ?_
  rintro e w5 hU
  obtain ⟨ya, yc, ys, rfl, hus, hva, hv, hs, hb⟩ := hU.form RW hRW.out
  rw [← hLL.out] at hva hus ⊢
  have B5 : Hid (Below w.heap.size w w5) := Below.andThen (Below.andThen B2.out N4.out) hb
  have V5 : Hid (IsV w5 w4.heap.size (.slice ya ys.length yc) ys) := hv
  have S5 : Hid (Vs w5 w4.heap.size ys RW) := hs
  have L5 : Hid (ys.length = L) := hus
  have YA : Hid (0 < L → ∃ g, ya = some ⟨g, 0, none⟩) := hva
  have V45 : Hid (IsV w5 w3.heap.size (.slice va us.length vc) us) := V4.out.next hb
  have S45 : Hid (Vs w5 w3.heap.size us RW) := S4.out.mv fun g' C hg' => blk11 hb hg'
  clear U2 hU hv hs hb hus hva sl
  have hL64 : L ≤ 64 := by
    have h1 := unV_len (zs.drop 4) (ms.map Mz.q) 0
    have h2 := (chkC_zeroB CK0.out).1
    rw [List.length_map] at h1
    have h3 : RW.length ≤ ROW.length := by rw [hRW.out]; split <;> simp
    rw [← hROW.out] at h1
    rw [hLL.out]
    omega
  have OCT : Hid (∀ r ∈ RW, Oct r.2.2) := fun r hr => by
    rw [hRW.out] at hr
    split at hr
    · rw [hROW.out] at hr
      exact unV_oct (fun x hx => RW2.out.oct x (List.mem_of_mem_drop hx)) _ _ r hr
    · cases hr
  clear hRW hROW hRES
  go_wp2_with fail
  go_loopw [18] (fun iv wr => ∃ k : Nat, k ≤ L ∧ iv = .int .i64 (k : Int) ∧ Hid (Below w5.heap.size w5 wr)) (fun iv _ => L - (intOf iv).toNat)
  case atStart => exact ⟨0, Nat.zero_le _, rfl, Below.refl _ _⟩
  case round =>
    obtain ⟨k, hk, rfl, BR⟩ := hrel
    by_cases hkL : k < L
    · have gk : (k : Int) < (L : Int) := by omega
      have gk0 : (0 : Int) ≤ (k : Int) := by omega
      obtain ⟨gx, rfl⟩ := VA.out (by omega)
      obtain ⟨gy, rfl⟩ := YA.out (by omega)
      obtain ⟨rr, hrr⟩ : ∃ rr, RW[k]? = some rr := ⟨_, List.getElem?_eq_getElem (by have := hLL.out; omega)⟩
      obtain ⟨ri, rs, rz⟩ := rr
      obtain ⟨p1, q1, _, o1⟩ := S45.out.2 k _ hrr
      obtain ⟨p2, q2, _, o2⟩ := S5.out.2 k _ hrr
      have OZ : Hid (Oct rz) := OCT.out _ (List.mem_of_getElem? hrr)
      obtain ⟨c0, c1, c2⟩ := V45.out.at k _ q1
      obtain ⟨d0, d1, d2⟩ := V5.out.at k _ q2
      have B := BR.out
      have c0 := (B.cell (block_lt_of_cell c0)).trans c0
      have c1 := (B.cell (block_lt_of_cell c1)).trans c1
      have c2 := (B.cell (block_lt_of_cell c2)).trans c2
      have d0 := (B.cell (block_lt_of_cell d0)).trans d0
      have d1 := (B.cell (block_lt_of_cell d1)).trans d1
      have d2 := (B.cell (block_lt_of_cell d2)).trans d2
      have s1 := fun n => ((row_own rfl OZ.out (blk11 B o1)).next (below_drewN (Below.refl _ _) n)).str rz.length
      have s2 := fun n => ((row_own rfl OZ.out (blk11 B o2)).next (below_drewN (Below.refl _ _) n)).str rz.length
      obtain ⟨rn, hrn⟩ : ∃ rn, Hid (rn = rz.length) := ⟨_, rfl⟩
      dsimp only at c0 c1 c2 d0 d1 d2 s1 s2
      rw [← hrn.out] at c2 d2 s1 s2
      obtain ⟨st, hst⟩ : ∃ st, Hid (st = strOfNums rz) := ⟨_, rfl⟩
      rw [← hst.out] at s1 s2
      have ne := nePl ri rs
      have wk : IntKind.i64.wrap ((k : Int) + 1) = ((k + 1 : Nat) : Int) := by rw [IntKind.wrap_i64]; omega
      clear hrr q1 q2 o1 o2 B
      go_wp2_with fail
      go_quiet (fail)
      go_wp2_with fail
      exact ⟨⟨k + 1, by omega, by go_num, ⟨BR.out.os, BR.out.tape, BR.out.output, BR.out.size, BR.out.block⟩⟩, by simp [intOf]; omega⟩
    · obtain rfl : k = L := by omega
      have B6 : Hid (Below w.heap.size w wr) := Below.andThen B5.out BR.out
      go_wp2_with fail
      refine (HWK.out _ B6.out).mono ?_
      rintro e w9 ⟨rfl, hb⟩
      go_wp2_with fail
      go_ret
      exact ⟨rfl, hb⟩

theorem mappingGaps_any {w : World} {a0 : Option Addr} {len0 : Nat} {es : List Em} (h0 : IsEn w a0 len0 es) (cap0 : Nat) (lm0 : len0 ≤ maxLen) {a1 : Option Addr} {len1 : Nat} {ms : List Mz} (h1 : IsMz w a1 len1 ms) (cap1 : Nat) {a2 : Option Addr} {len2 : Nat} {zs : List Int} (h2 : Row w a2 len2 zs) (cap2 : Nat) (hc2 : len2 ≤ cap2) (wh : Int) (hw0 : 0 ≤ wh) (hT : Ty.Tab64 w) :
    Calls Tryd.prog 3 #[.slice a0 len0 cap0, .slice a1 len1 cap1, .slice a2 len2 cap2, .int .u8 wh] w fun e w' => e = .returned (.bool true) ∧ Below w.heap.size w w' := by
  rcases (by omega : wh % 3 = 0 ∨ wh % 3 = 1 ∨ wh % 3 = 2) with h | h | h
  · exact mappingGaps_0 h0 cap0 lm0 h1 cap1 h2 cap2 hc2 wh hw0 h hT
  · exact mappingGaps_1 h0 cap0 lm0 h1 cap1 h2 cap2 hc2 wh hw0 h hT
  · exact mappingGaps_2 h0 cap0 lm0 h1 cap1 h2 cap2 hc2 wh hw0 h hT
#print axioms mappingGaps_any
end Go.Proofs.YtgpgpoohchogdaaDoor
namespace Go.Proofs.YtgpgpoohchogdaaDoor
open Go.ChangeShapes Go.WideShapes Go.ChangeAt Go.RowKit
open Go.ChangeMaps (open_string shut_string)

namespace mappingGaps
theorem laid_met (os : Os) : laidMet Tryd.prog Rows.mappingGapsRow.laid (({ World.holding Tryd.prog os ⟨#[], #[], []⟩ with heap := (World.holding Tryd.prog os ⟨#[], #[], []⟩).heap.modify 1 (put (Lib.deBruijn64tab.map fun n : Nat => Value.int .u8 (n : Int)).toArray) } : World).forCall (fun _ _ => 0) ⟨#[], #[.slice none 0 0, .slice none 0 0, .slice none 0 0, .int .u8 0], []⟩).memory :=
  laidMet_of_run' 8 (by kernel_rfl) (by kernel_rfl)
theorem reads (os : Os) {H : Type} (enc : TypeId × Value → H) : ∃ places, DataW.whole enc Tryd.prog (({ World.holding Tryd.prog os ⟨#[], #[], []⟩ with heap := (World.holding Tryd.prog os ⟨#[], #[], []⟩).heap.modify 1 (put (Lib.deBruijn64tab.map fun n : Nat => Value.int .u8 (n : Int)).toArray) } : World).forCall (fun _ _ => 0) ⟨#[], #[.slice none 0 0, .slice none 0 0, .slice none 0 0, .int .u8 0], []⟩).memory Tryd.f3.params.toList Rows.mappingGapsSpec.vars false (#[.slice none 0 0, .slice none 0 0, .slice none 0 0, .int .u8 0] : Array Value).toList 8 = some ([.nil, .nil, .nil, .lit (.int .u8 0)], [], places) :=
  ⟨[], by kernel_rfl⟩

set_option maxRecDepth 100000 in
theorem contract (H : Type) (enc : TypeId × Value → H) (W : World) (base : Nat) (args : Array Value) (ds gs : List (DataW H)) (before : List MemPlace)
    (hval : ∀ (j : Nat) t v, Tryd.f3.params[j]? = some t → args[j]? = some v → Value.okWide Tryd.prog W .any base t v)
    (hW : DataW.Whole enc Tryd.prog Tryd.f3.params.toList Rows.mappingGapsSpec.vars false W args.toList ds gs before) (hL : laidMetH Tryd.prog Rows.mappingGapsRow.laid W) (hsz : ∀ (j : Nat) (t : TypeId) (d : DataW H), Tryd.f3.params.toList[j]? = some t → ds[j]? = some d → ∀ n ∈ d.weights Tryd.prog t, n ≤ reachBytes) :
    Calls Tryd.prog 3 args W fun e W' => ∃ v, e = .returned v ∧ Rows.mappingGapsSpec.post enc Tryd.prog Tryd.f3 false true false false W args v W' := by
  have hW' := hW
  obtain ⟨p, q, hA0, hV, rfl, hfz, hnd⟩ := hW
  have hA : DataW.TrodAll enc Tryd.prog W 0 (fun _ => true) true Tryd.f3.params.toList args.toList ds p := hA0
  rw [Tryd.params3] at hA hval hsz
  obtain ⟨v0, vs0, d0, ds0, p0, q0, hargs, rfl, rfl, h0, r0⟩ := trodAll_cons hA
  obtain ⟨v1, vs1, d1, ds1, p1, q1, rfl, rfl, rfl, h1, r1⟩ := trodAll_cons r0
  obtain ⟨v2, vs2, d2, ds2, p2, q2, rfl, rfl, rfl, h2, r2⟩ := trodAll_cons r1
  obtain ⟨v3, vs3, d3, ds3, p3, q3, rfl, rfl, rfl, h3, r3⟩ := trodAll_cons r2
  obtain ⟨rfl, rfl, rfl⟩ := trodAll_nil r3
  obtain rfl : args = #[v0, v1, v2, v3] := by cases args; simp_all
  obtain ⟨rfl, rfl⟩ := trodVars_none hV
  have k0 := h0
  have lt0 : ∀ x ∈ p0, x.block < W.heap.size := by obtain ⟨m, hm⟩ := k0; exact DataW.trod_lt m _ _ _ hm
  obtain ⟨a0, len0, cap0, rfl⟩ := okWide_slice Tryd.underlying22 (hval 0 22 v0 rfl rfl)
  obtain ⟨l0, o0, lc0⟩ : ∃ l, IsEn W a0 len0 l ∧ len0 ≤ maxLen := by
    obtain ⟨fuel, hf⟩ := h0
    obtain ⟨a', len', cap', l, e, ho, hc, hm⟩ := open_en (v := .slice a0 len0 cap0) hf (hsz 0 22 _ rfl rfl)
    cases e
    exact ⟨l, ho, Nat.le_trans hc hm⟩
  have k1 := h1
  have lt1 : ∀ x ∈ p1, x.block < W.heap.size := by obtain ⟨m, hm⟩ := k1; exact DataW.trod_lt m _ _ _ hm
  obtain ⟨a1, len1, cap1, rfl⟩ := okWide_slice Tryd.underlying23 (hval 1 23 v1 rfl rfl)
  obtain ⟨l1, o1⟩ : ∃ l, IsMz W a1 len1 l := by
    obtain ⟨fuel, hf⟩ := h1
    obtain ⟨a', len', cap', l, e, ho, hc, hm⟩ := open_mz (v := .slice a1 len1 cap1) hf
    cases e
    exact ⟨l, ho⟩
  have k2 := h2
  have lt2 : ∀ x ∈ p2, x.block < W.heap.size := by obtain ⟨m, hm⟩ := k2; exact DataW.trod_lt m _ _ _ hm
  obtain ⟨a2, len2, cap2, rfl⟩ := okWide_slice Tryd.underlying24 (hval 2 24 v2 rfl rfl)
  obtain ⟨z2, o2, lc2⟩ : ∃ zs, Row W a2 len2 zs ∧ len2 ≤ cap2 := by
    obtain ⟨fuel, hf⟩ := h2
    obtain ⟨a', zs, cap', e, hr, hc, hm, hz⟩ := open_rowO (cs := [.slice a2 len2 cap2]) hf (hsz 2 24 _ rfl rfl)
    cases e
    exact ⟨zs, hr, hc⟩
  obtain ⟨a3, rfl, rfl, rfl, w3⟩ := open_int Tryd.underlying5 (hval 3 5 v3 rfl rfl) h3
  clear hA0
  refine (mappingGaps_any o0 cap0 lc0 o1 cap1 o2 cap2 lc2 a3 (wf_o w3).1 (tab10 hL)).mono fun e W' ⟨he, bel⟩ => ?_
  subst he
  exact ⟨_, rfl, _, _, _, [], _, [], hW', trodAll_mk1 (shut_bool Tryd.underlying4 _), (trodAll_cons_mk (Below.trod laidOut (by kernel_rfl) (of_decide_eq_true (by kernel_rfl)) k0 bel lt0) (trodAll_cons_mk (Below.trod laidOut (by kernel_rfl) (of_decide_eq_true (by kernel_rfl)) k1 bel lt1) (trodAll_cons_mk (Below.trod laidOut (by kernel_rfl) (of_decide_eq_true (by kernel_rfl)) k2 bel lt2) (trodAll_cons_mk (shut_int Tryd.underlying5 w3) trodAll_mk0)))), rfl, bel.frame _, fun h => by cases h⟩

set_option maxRecDepth 100000 in
theorem lifted (os : Os) (started : os.Started) (H : Type) (enc : TypeId × Value → H) (F : Stop.Interp) :
    ReturnsInHanded {} Tryd.checked os 3 .any ((OpenSpec.ofChange Rows.mappingGapsSpec).preRow enc Tryd.prog Tryd.f3 Rows.mappingGapsRow.domain false Rows.mappingGapsRow.laid) (((OpenSpec.ofChange Rows.mappingGapsSpec).at F).post enc Tryd.prog Tryd.f3 false true false false) := by
  obtain ⟨places, hx⟩ := reads os enc
  refine returnsInHanded_of_row (C := Tryd.checked) (s := OpenSpec.ofChange Rows.mappingGapsSpec) own started (by kernel_rfl) Tryd.func3
    (witness_row_at (enc := enc) (C := Tryd.checked) false ({ World.holding Tryd.prog os ⟨#[], #[], []⟩ with heap := (World.holding Tryd.prog os ⟨#[], #[], []⟩).heap.modify 1 (put (Lib.deBruijn64tab.map fun n : Nat => Value.int .u8 (n : Int)).toArray) } : World) #[.slice none 0 0, .slice none 0 0, .slice none 0 0, .int .u8 0] rfl (by kernel_rfl) (by kernel_rfl) (by kernel_rfl)
      (OpenSpec.preRow_of_cond 8 hx (by kernel_rfl) (fun k hk => by cases hk) (by kernel_rfl) (laid_met os))) ?_
  intro W base args ds gs before hval hW _ _ hsz hL _ _
  exact contract H enc W base args ds gs before hval hW hL (sized_of hsz)

theorem said : Rows.MappingGapsSaid :=
  OpenClaim.holds_of_cond 3 Tryd.f3 rfl rfl rfl rfl rfl rfl rfl ⟨rfl, rfl, rfl, rfl, rfl⟩ rfl rfl rfl rfl rfl (by kernel_rfl) Tryd.func3 (by kernel_rfl)
    (of_decide_eq_true (by kernel_rfl)) (by unfold Func.isWrapper; first | (rw [if_pos (by decide +kernel)]; kernel_rfl) | (rw [if_neg (by decide +kernel)]; exact ⟨rfl, rfl⟩))
    (fun os started H enc _ F => by rw [OpenClaim.pre_eq_preRow]; exact lifted os started H enc F)

theorem plain (f : FuncId) (fn : Func) (hf : Tryd.pinned.checked.prog.funcNamed "campanile/campanilelaw12.MappingGaps" = some f) (hfn : Tryd.pinned.checked.prog.funcs[f]? = some fn) :
    false = Tryd.pinned.checked.prog.looks [] ∧ ∀ (j : Nat) t, fn.params[j]? = some t → Tryd.pinned.checked.prog.wantsStandIn t = false := by
  obtain rfl : f = 3 := Option.some.inj ((show Tryd.prog.funcNamed "campanile/campanilelaw12.MappingGaps" = some 3 by kernel_rfl).symm.trans hf) |>.symm
  obtain rfl : fn = Tryd.f3 := (Option.some.inj (Tryd.func3.symm.trans hfn)).symm
  refine ⟨by kernel_rfl, fun j t ht => ?_⟩
  rw [Tryd.params3] at ht
  have hm := Array.mem_of_getElem? ht
  simp at hm
  rcases hm with rfl | rfl | rfl | rfl
  · exact (show Tryd.prog.wantsStandIn 22 = false by kernel_rfl)
  · exact (show Tryd.prog.wantsStandIn 23 = false by kernel_rfl)
  · exact (show Tryd.prog.wantsStandIn 24 = false by kernel_rfl)
  · exact (show Tryd.prog.wantsStandIn 5 = false by kernel_rfl)
end mappingGaps

/-- MappingGaps, the tied card. -/
theorem mappingGaps_holds : Rows.MappingGapsCardSaid :=
  Claim7.holds_tied_plain_at .later [] _ _ _ _ mappingGaps.said (fun _ h => by cases h) (by kernel_rfl) (fun _ h => by cases h) mappingGaps_row_tie rfl ⟨rfl, rfl⟩ (by kernel_rfl) rfl mappingGaps.plain (by kernel_rfl)
#print axioms mappingGaps_holds
end Go.Proofs.YtgpgpoohchogdaaDoor
