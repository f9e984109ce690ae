/-
  Unpack of any Maps that came in.
  Unpack of any Maps that may be, of any dictionary; gaps.
  Maps that came in, put behind a gap; what Unpack answers, in one form.
  A dictionary in memory, place by place: May and Write of any place.
  Write of any place; what a dictionary is behind it.
  What New made, place by place; dictionaries that are the same but for their values.
  What is unpacked of what was packed.
  Write of any Maps that may be, of any dictionary.
-/
import Derived.Test.YtcdmldnaagiicaaDoorIh
import Derived.Test.YtcdmldnaagiicaaDoorGh
import Derived.Test.YtcdmldnaagiicaaDoorTk9
import Derived.Deep.AppendSrc
import Derived.Deep.Upon
import Derived.Test.YtcdmldnaagiicaaDoorIc
import Derived.Test.YtcdmldnaagiicaaDoorGk
namespace Go.Proofs.YtcdmldnaagiicaaDoor
open Go.RowKit

/-- Is a Map a gap? -/
def gpB (x : Mq) : Bool := gapB x.i x.s (x.b : Int)
/-- The code of values that are refused. -/
def unC (mc : Mq → List Int → Int) (zs : List Int) : List Mq → Nat → Int
  | [], _ => 0
  | x :: l, n => if gpB x = true then unC mc zs l (n + x.b) else if mc x (tkB zs n x.b) ≠ 0 then mc x (tkB zs n x.b) else unC mc zs l (n + x.b)
/-- The values that are unpacked. -/
def unV (zs : List Int) : List Mq → Nat → List (Int × Int × List Int)
  | [], _ => []
  | x :: l, n => if gpB x = true then unV zs l (n + x.b) else (x.i, x.s, tkB zs n x.b) :: unV zs l (n + x.b)
/-- Values in memory. -/
def Vs (W : World) (base : Nat) (us : List Vq) (rs : List (Int × Int × List Int)) : Prop := us.length = rs.length ∧ ∀ (j : Nat) (r : Int × Int × List Int), rs[j]? = some r → ∃ g, us[j]? = some ⟨r.1, r.2.1, g, r.2.2.length⟩ ∧ base ≤ g ∧ W.heap[g]? = some (.cells (r.2.2.map (Value.int .u8)).toArray 5 (0, 0))
theorem vs_nil (W : World) (base : Nat) : Vs W base [] [] := ⟨rfl, fun j r h => by simp at h⟩
theorem Vs.mv {W W' : World} {base : Nat} {us : List Vq} {rs : List (Int × Int × List Int)} (h : Vs W base us rs) (hk : ∀ (g : Nat) (C : Array Value), W.heap[g]? = some (.cells C 5 (0, 0)) → W'.heap[g]? = some (.cells C 5 (0, 0))) : Vs W' base us rs := ⟨h.1, fun j r hr => by
  obtain ⟨g, h1, h2, h3⟩ := h.2 j r hr
  exact ⟨g, h1, h2, hk _ _ h3⟩⟩
theorem Vs.app {W : World} {base : Nat} {us : List Vq} {rs : List (Int × Int × List Int)} (h : Vs W base us rs) {i s : Int} {zb : List Int} {g n : Nat} (hn : zb.length = n) (hg : base ≤ g) (hh : W.heap[g]? = some (.cells (zb.map (Value.int .u8)).toArray 5 (0, 0))) : Vs W base (us ++ [⟨i, s, g, n⟩]) (rs ++ [(i, s, zb)]) := by
  refine ⟨by simp [h.1], fun j r hr => ?_⟩
  have hl := h.1
  rcases Nat.lt_or_ge j rs.length with hj | hj
  · rw [List.getElem?_append_left hj] at hr
    obtain ⟨g', h1, h2, h3⟩ := h.2 j r hr
    exact ⟨g', by rw [List.getElem?_append_left (by omega)]; exact h1, h2, h3⟩
  · rw [List.getElem?_append_right hj] at hr
    have h0 : j - rs.length = 0 := by
      have := (List.getElem?_eq_some_iff.1 hr).1
      simp at this
      omega
    rw [h0] at hr
    simp at hr
    subst hr
    exact ⟨g, by rw [List.getElem?_append_right (by omega), hl, h0]; simp [hn], hg, hh⟩
/-- What Unpack answers. -/
def UPost (w : World) (RES : Int) (ROWS : List (Int × Int × List Int)) (e : Ending) (w' : World) : Prop := ((RES ≠ 0 ∧ e = .returned (.tuple #[.slice none 0 0, .int .u32 RES])) ∨ (RES = 0 ∧ ∃ v us, e = .returned (.tuple #[v, .int .u32 0]) ∧ IsV w' w.heap.size v us ∧ Vs w' w.heap.size us ROWS)) ∧ Below w.heap.size w w'
theorem tkB_oct {zs : List Int} (hz : Oct zs) (nx n : Nat) : Oct (tkB zs nx n) := (layB_tb zs hz nx n 0 (List.replicate ((n + 7) / 8) 0) (fun y hy => by have := (List.mem_replicate.1 hy).2; subst this; decide) (by simp; omega)).1
set_option linter.unusedSimpArgs false in
set_option maxHeartbeats 4000000 in
set_option maxRecDepth 100000 in
theorem may_code (p m : Nat) (cg : Int) (lst : Mp) (i s : Int) (nm : ByteArray) (t rt : Int) (d : Option Addr) (ld cd : Nat) (l : Option Addr) (ll cl : Nat) (h : Option Addr) (lh ch : Nat) (tg gr : Int) (v : Option Addr) (lv cv : Nat) (b : Option Addr) (lb cb : Nat) (zb zl zh : List Int) (w : World) (hp : w.heap[p]? = some (.cells #[.map (some m), .int .i64 cg] 58 (0, 0))) (hm : IsM w m lst) (hl : lookP lst i s = some (.agg (itC i s nm t rt d ld cd l ll cl h lh ch tg gr v lv cv))) (rb : SlOk w b lb cb zb) (rl : SlOk w l ll cl zl) (rh : SlOk w h lh ch zh) (hT : Ty.Tab64 w)
    (hr : (bits .and .u8 rt 2 != 0) = true) (c : Int) (hc : Ty.chkN t zb zl zh = c) :
    Calls Tryd.prog 13 #[.pointer (some ⟨p, 0, none⟩), plV i s, .slice b lb cb] w fun e w' => ∃ g, e = .returned (.tuple #[.int .u8 g, .int .u32 c]) ∧ Below w.heap.size w w' := by
  have HF : Hid (∀ W, Below w.heap.size w W → Calls Tryd.prog 27 #[.pointer (some ⟨p, 0, none⟩), plV i s] W fun e w' => e = .returned (.tuple #[.agg (itC i s nm t rt d ld cd l ll cl h lh ch tg gr v lv cv), .int .u32 0]) ∧ Below W.heap.size W w') := fun W hb => find_at p m cg lst i s nm t rt d ld cd l ll cl h lh ch tg gr v lv cv W (blk11 hb hp) (hm.next hb) hl
  have HH : Hid (∀ W, Calls Tryd.prog 28 #[.agg (itC i s nm t rt d ld cd l ll cl h lh ch tg gr v lv cv), .int .u8 2] W fun e w' => e = .returned (.bool true) ∧ Below W.heap.size W w') := fun W => by
    have := has_any i s nm t rt d ld cd l ll cl h lh ch tg gr v lv cv 2 W
    rw [hr] at this
    exact this
  have HC : Hid (∀ W, Below w.heap.size w W → Calls Tryd.prog 29 #[.agg (itC i s nm t rt d ld cd l ll cl h lh ch tg gr v lv cv), .slice b lb cb] W fun e w' => e = .returned (.int .u32 c) ∧ Below W.heap.size W w') := fun W hb => by
    have := icheck_any i s nm t rt d ld cd l ll cl h lh ch tg gr v lv cv b lb cb zb zl zh W (rb.next hb) (rl.next hb) (rh.next hb) (tab_next hT hb)
    rw [hc] at this
    exact this
  clear hp hm hl rb rl rh hT hr hc
  go_enter Tryd.func13, Tryd.ntmps13
  go_wp2_with fail
  refine (HF.out _ (by repeat (first | exact Below.refl _ _ | apply Below.drew | apply Below.al))).mono ?_
  rintro e w1 ⟨rfl, hb⟩
  have B1 : Hid (Below w.heap.size w w1) := Below.andThen (by repeat (first | exact Below.refl _ _ | apply Below.drew | apply Below.al)) hb
  clear hb
  go_wp2_with fail
  refine (HH.out _).mono ?_
  rintro e w2 ⟨rfl, hb⟩
  have B2 : Hid (Below w.heap.size w w2) := Below.andThen (Below.al B1.out _) hb
  have X2 : Hid (w2.heap[w1.heap.size]? = some (.cells (itC i s nm t rt d ld cd l ll cl h lh ch tg gr v lv cv) 62 (0, 0))) := blk11 hb (at11 _ _ _ rfl)
  have l2 := lt_of_heap X2.out
  clear hb
  go_wp2_with (refine wpList_load_by rfl 62 _ rfl ⟨w1.heap.size, 0, none⟩ _ rfl (loadI _ _ i s nm t rt d ld cd l ll cl h lh ch tg gr v lv cv _ X2.out) ?_)
  refine (HC.out _ B2.out).mono ?_
  rintro e w3 ⟨rfl, hb⟩
  have B3 : Hid (Below w.heap.size w w3) := Below.andThen B2.out hb
  have X3 : Hid (w3.heap[w1.heap.size]? = some (.cells (itC i s nm t rt d ld cd l ll cl h lh ch tg gr v lv cv) 62 (0, 0))) := blk11 hb X2.out
  have c8 : w3.cell? ⟨w1.heap.size, 8, none⟩ = some (.int .u8 tg) := by rw [cell_of_row _ _ 8 _ _ _ X3.out]; rfl
  clear hb
  by_cases hc0 : c = 0
  · subst hc0
    go_wp2_with fail
    go_ret2
    exact ⟨_, rfl, B3.out⟩
  · go_wp2_with fail
    go_ret2
    exact ⟨_, rfl, B3.out⟩

set_option linter.unusedSimpArgs false in
set_option maxHeartbeats 4000000 in
set_option maxRecDepth 100000 in
theorem unpack_O (p : Nat) (ad : Option Addr) (gm off N cap : Nat) (ms : List Mq) (mc : Mq → List Int → Int) (a : Option Addr) (len capb : Nat) (zs : List Int) (w : World) (hN : ms.length = N) (had : 0 < N → ad = some ⟨gm, off, none⟩) (h64 : N ≤ 64) (hM : MsO w gm off ms) (hI : ∀ x ∈ ms, 0 ≤ x.i ∧ x.i < 65536) (hC : ∀ W, Below w.heap.size w W → Calls Tryd.prog 8 #[.pointer (some ⟨p, 0, none⟩), .slice ad N cap, .bool false] W fun e w' => e = .returned (.int .u32 0) ∧ Below W.heap.size W w') (hs : sumB ms N ≤ 64) (hr : Row w a len zs) (hlen : (sumB ms N + 7) / 8 ≤ len) (hlen2 : len ≤ 1000)
    (HMay : ∀ W, Below w.heap.size w W → ∀ x ∈ ms, gpB x = false → ∀ zb g, zb.length = (x.b + 7) / 8 → Oct zb → W.heap[g]? = some (.cells (zb.map (Value.int .u8)).toArray 5 (0, 0)) → Calls Tryd.prog 13 #[.pointer (some ⟨p, 0, none⟩), plV x.i x.s, .slice (some ⟨g, 0, none⟩) ((x.b + 7) / 8) ((x.b + 7) / 8)] W fun e w' => ∃ tg, e = .returned (.tuple #[.int .u8 tg, .int .u32 (mc x zb)]) ∧ Below W.heap.size W w') :
    Calls Tryd.prog 26 #[.pointer (some ⟨p, 0, none⟩), .slice ad N cap, .slice a len capb] w fun e w' => UPost w (unC mc zs ms 0) (unV zs ms 0) e w' := by
  obtain ⟨R, hR⟩ : ∃ R, Hid (R = (sumB ms N + 7) / 8) := ⟨_, rfl⟩
  have HC : Hid (∀ W, Below w.heap.size w W → Calls Tryd.prog 8 #[.pointer (some ⟨p, 0, none⟩), .slice ad N cap, .bool false] W fun e w' => e = .returned (.int .u32 0) ∧ Below W.heap.size W w') := hC
  have HS : Hid (∀ W, Below w.heap.size w W → Calls Tryd.prog 10 #[.slice ad N cap] W fun e w' => e = .returned (.int .i64 (R : Int)) ∧ Below W.heap.size W w') := fun W hb => by rw [hR.out]; exact size_O ad gm off N cap had ms W hN h64 (hM.next hb) hs
  have HI : Hid (∀ x ∈ ms, 0 ≤ x.i ∧ x.i < 65536) := hI
  have HY : Hid (∀ W, Below w.heap.size w W → ∀ x ∈ ms, gpB x = false → ∀ zb g, zb.length = (x.b + 7) / 8 → Oct zb → W.heap[g]? = some (.cells (zb.map (Value.int .u8)).toArray 5 (0, 0)) → Calls Tryd.prog 13 #[.pointer (some ⟨p, 0, none⟩), plV x.i x.s, .slice (some ⟨g, 0, none⟩) ((x.b + 7) / 8) ((x.b + 7) / 8)] W fun e w' => ∃ tg, e = .returned (.tuple #[.int .u8 tg, .int .u32 (mc x zb)]) ∧ Below W.heap.size W w') := HMay
  have HAD : Hid (0 < N → ad = some ⟨gm, off, none⟩) := had
  obtain ⟨RES, hRES⟩ : ∃ RES, Hid (RES = unC mc zs ms 0) := ⟨_, rfl⟩
  obtain ⟨ROWS, hROWS⟩ : ∃ ROWS, Hid (ROWS = unV zs ms 0) := ⟨_, rfl⟩
  rw [← hRES.out, ← hROWS.out]
  have HM : Hid (MsO w gm off ms) := hM
  have HW : Hid (Row w a len zs) := hr
  have hRl : R ≤ len := by have := hR.out; omega
  clear hM hr HMay hI hC had
  go_enter Tryd.func26, Tryd.ntmps26
  go_wp2_with fail
  refine (HC.out _ (by repeat (first | exact Below.refl _ _ | apply Below.drew | apply Below.al))).mono ?_
  rintro e w1 ⟨rfl, hb1⟩
  have B1 : Hid (Below w.heap.size w w1) := Below.andThen (by repeat (first | exact Below.refl _ _ | apply Below.drew | apply Below.al)) hb1
  have HB1 : Hid (w1.heap[w.heap.size]? = some (.cells #[.slice a len capb] 34 (0, 0))) := blk11 hb1 (at11 _ _ _ rfl)
  clear hb1
  go_wp2_with fail
  refine wp_region_held_drew (S := fun z => Below w1.heap.size w1 z) (by kernel_rfl) (Below.drew (Below.refl _ _)) (fun hHeld => ?_)
  refine tk 0 (.slice a len capb) rfl (.inl ⟨by rfl, ?_⟩) ?_
  · intro w9 hSw
    try dsimp only at hSw
    have c9 : w9.cell? ⟨w.heap.size, 0, none⟩ = some (.slice a len capb) := by rw [cell_of_row _ _ 0 _ _ _ (blk11 hSw HB1.out)]; rfl
    go_simp
    all_goals try assumption
  try simp only [Act.put, gA, gS, gZ, sA, sZ, sS]
  refine tk 1 (.int .i64 (len : Int)) rfl (.inl ⟨by rfl, ?_⟩) ?_
  · intro w9 hSw
    try dsimp only at hSw
    go_simp
    all_goals try decide
    all_goals try assumption
    all_goals try omega
  try simp only [Act.put, gA, gS, gZ, sA, sZ, sS]
  refine tk 2 (.slice ad N cap) rfl (.inl ⟨by rfl, ?_⟩) ?_
  · intro w9 hSw
    try dsimp only at hSw
    go_simp
    all_goals try decide
    all_goals try assumption
    all_goals try omega
  try simp only [Act.put, gA, gS, gZ, sA, sZ, sS]
  refine wpAnyH_ready (rs := [3]) (by kernel_rfl) (by simp) ?_
  refine AllReadyH.cons rfl (fun K' hK => ?_) AllReadyH.nil
  rw [if_pos (by rfl)]
  simp only [gA, gS, gZ]
  go_wp2_with fail
  refine (HS.out _ (Below.andThen B1.out (Below.drew (Below.refl _ _)))).mono ?_
  rintro e z3 ⟨rfl, hb3⟩
  have N3 : Hid (Below w1.heap.size w1 z3) := Below.andThen (Below.drew (Below.refl _ _)) hb3
  clear hb3
  try go_wp2_with fail
  refine hK.out _ _ (N3.out) (fun hHeld => ?_)
  clear hK K'
  try simp only [Act.put, gA, gS, gZ, sA, sZ, sS]
  refine tk 4 (.bool false) rfl (.inl ⟨by rfl, ?_⟩) ?_
  · intro w9 hSw
    try dsimp only at hSw
    have q1 : ¬ ((len : Int) < (R : Int)) := by omega
    go_simp
    all_goals try omega
  try simp only [Act.put, gA, gS, gZ, sA, sZ, sS]
  refine wpAnyH_done (by kernel_rfl) ?_ _
  have B3 : Hid (Below w.heap.size w z3) := Below.andThen B1.out hHeld
  have HB3 : Hid (z3.heap[w.heap.size]? = some (.cells #[.slice a len capb] 34 (0, 0))) := blk11 hHeld HB1.out
  clear hHeld N3
  go_wp2_with fail
  obtain ⟨Bx, hBx⟩ : ∃ Bx, Hid (Bx = z3.heap.size) := ⟨_, rfl⟩
  rw [← hBx.out]
  have BX0 : Hid ((z3.alloc (.cells #[.int .i64 0] 3)).heap[Bx]? = some (.cells #[.int .i64 0] 3 (0, 0))) := by show _ = _; rw [hBx.out]; exact heap_new _ _
  have nBx : Bx ≠ w.heap.size := by have := lt_of_heap HB3.out; have := hBx.out; omega
  have gBx : w.heap.size ≤ Bx := by have := B3.out.size; have := hBx.out; omega
  go_loopw [11, 31] (fun u11 iv wr => ∃ (k : Nat) (us : List Vq) (rs : List (Int × Int × List Int)), k ≤ N ∧ iv = .int .i64 (k : Int) ∧ Hid (IsV wr w.heap.size u11 us ∧ us.length ≤ k ∧ Vs wr w.heap.size us rs ∧ RES = unC mc zs (ms.drop k) (sumB ms k) ∧ ROWS = rs ++ unV zs (ms.drop k) (sumB ms k) ∧ wr.heap[w.heap.size]? = some (.cells #[.slice a len capb] 34 (0, 0)) ∧ wr.heap[Bx]? = some (.cells #[.int .i64 ((sumB ms k : Nat) : Int)] 3 (0, 0)) ∧ Below w.heap.size w wr)) (fun _ iv _ => N - (intOf iv).toNat)
  case atStart => exact ⟨0, [], [], Nat.zero_le _, rfl, isV_nil _ _, Nat.le_refl _, vs_nil _ _, hRES.out, hROWS.out, ext11 HB3.out, BX0.out, Below.al B3.out _⟩
  case round =>
    obtain ⟨k, us, rs, hk, rfl, HR⟩ := hrel
    by_cases hkN : k < N
    · obtain rfl := HAD.out (by omega)
      have gk : (k : Int) < (N : Int) := by omega
      have gk0 : (0 : Int) ≤ (k : Int) := by omega
      obtain ⟨x, hx⟩ : ∃ x, ms[k]? = some x := ⟨_, List.getElem?_eq_getElem (by omega)⟩
      obtain ⟨r1, r2, r3, rC, rV, r4, r5, r6⟩ := HR.out
      obtain ⟨c0, c1, c2⟩ := (HM.out.next r6) k x hx
      have HXm : Hid (x ∈ ms) := List.mem_of_getElem? hx
      have SS : Hid (sumB ms (k + 1) = sumB ms k + x.b) := sumB_succ hx
      have SL : Hid (sumB ms (k + 1) ≤ sumB ms N) := sumB_le ms (by omega)
      have wk : IntKind.i64.wrap ((k : Int) + 1) = ((k + 1 : Nat) : Int) := by rw [IntKind.wrap_i64]; omega
      have DR : ms.drop k = x :: ms.drop (k + 1) := by
        obtain ⟨hk2, he⟩ := List.getElem?_eq_some_iff.1 hx
        rw [List.drop_eq_getElem_cons hk2, he]
      have RC : Hid (RES = if gpB x = true then unC mc zs (ms.drop (k + 1)) (sumB ms (k + 1)) else if mc x (tkB zs (sumB ms k) x.b) ≠ 0 then mc x (tkB zs (sumB ms k) x.b) else unC mc zs (ms.drop (k + 1)) (sumB ms (k + 1))) := by
        show _ = _
        rw [rC, DR, SS.out]
        rfl
      have RV : Hid (ROWS = rs ++ if gpB x = true then unV zs (ms.drop (k + 1)) (sumB ms (k + 1)) else (x.i, x.s, tkB zs (sumB ms k) x.b) :: unV zs (ms.drop (k + 1)) (sumB ms (k + 1))) := by
        show _ = _
        rw [rV, DR, SS.out]
        rfl
      have OT : Hid (Oct (tkB zs (sumB ms k) x.b)) := tkB_oct HW.out.oct _ _
      have R1 : Hid (IsV wr w.heap.size u11 us) := r1
      have R2 : Hid (us.length ≤ k) := r2
      have R3 : Hid (Vs wr w.heap.size us rs) := r3
      have R4 : Hid (wr.heap[w.heap.size]? = some (.cells #[.slice a len capb] 34 (0, 0))) := r4
      have R5 : Hid (wr.heap[Bx]? = some (.cells #[.int .i64 ((sumB ms k : Nat) : Int)] 3 (0, 0))) := r5
      have R6 : Hid (Below w.heap.size w wr) := r6
      clear r1 r2 r3 r4 r5 r6 rC rV DR HR hx
      go_wp2_with fail
      refine (take_any x.b (sumB ms k) w.heap.size Bx a len capb zs _ (ext11 R4.out) (ext11 R5.out) ((HW.out.next R6.out).next (by repeat (first | exact Below.refl _ _ | apply Below.drew | apply Below.al))) (by have := SS.out; have := SL.out; omega) (by have := SS.out; have := SL.out; have := hR.out; omega) (by omega)).mono ?_
      rintro e w2 ⟨g, rfl, hg, g2, x2, k2⟩
      have lBx : Bx < wr.heap.size := lt_of_heap R5.out
      have hgw : wr.heap.size + 1 ≤ g := by simpa using hg
      have X2 : Hid (w2.heap[wr.heap.size]? = some (.cells #[.int .u16 x.i, .int .u8 x.s, .int .i64 (x.b : Int)] 48 (0, 0))) := k2.at (by simp; omega) (at11 _ _ _ rfl)
      have G2 : Hid (w2.heap[g]? = some (.cells ((tkB zs (sumB ms k) x.b).map (Value.int .u8)).toArray 5 (0, 0))) := g2
      have XX2 : Hid (w2.heap[Bx]? = some (.cells #[.int .i64 ((sumB ms (k + 1) : Nat) : Int)] 3 (0, 0))) := by rw [SS.out]; exact x2
      have B2 : Hid (Below w.heap.size w w2) := Kp.below (Below.al R6.out _) k2 (by have := R6.out.size; simp; omega) (by simp; omega)
      have V2 : Hid (IsV w2 w.heap.size u11 us) := (R1.out.next (Below.al (Below.refl _ _) (.cells #[.int .u16 x.i, .int .u8 x.s, .int .i64 (x.b : Int)] 48))).same fun kk hkk => k2.block kk (by have := (R1.out.lt kk hkk).2; simp; omega) (by
        intro hmm
        simp at hmm
        subst hmm
        exact R1.out.ne R5.out (by decide) hkk.symm)
      have J2 : Hid (Vs w2 w.heap.size us rs) := R3.out.mv fun g' C hg' => k2.at (by
        intro hmm
        simp at hmm
        subst hmm
        rw [R5.out] at hg'
        simp at hg') (ext11 hg')
      have A2 : Hid (w2.heap[w.heap.size]? = some (.cells #[.slice a len capb] 34 (0, 0))) := k2.at (by simp; omega) (ext11 R4.out)
      have d0 : w2.cell? ⟨wr.heap.size, 0, none⟩ = some (.int .u16 x.i) := by rw [cell_of_row _ _ 0 _ _ _ X2.out]; rfl
      have d1 : w2.cell? ⟨wr.heap.size, 1, none⟩ = some (.int .u8 x.s) := by rw [cell_of_row _ _ 1 _ _ _ X2.out]; rfl
      have d2 : w2.cell? ⟨wr.heap.size, 2, none⟩ = some (.int .i64 (x.b : Int)) := by rw [cell_of_row _ _ 2 _ _ _ X2.out]; rfl
      have hi := HI.out x HXm.out
      have R6s : Hid (w.heap.size ≤ g) := by show w.heap.size ≤ g; have := R6.out.size; omega
      clear hg g2 x2 k2 c0 c1 c2 R1 R3 R4 R5 R6
      go_wp2_with fail
      obtain ⟨gp, hgp⟩ : ∃ gp, Hid (gp = gpB x) := ⟨_, rfl⟩
      rw [← hgp.out] at RC RV
      have GP := isGap_any x.i x.s x.b w2 hi.1 hi.2
      rw [show gapB x.i x.s x.b = gp from hgp.out.symm] at GP
      refine GP.mono ?_
      rintro e w3 ⟨rfl, hb3⟩
      clear GP
      have B3 : Hid (Below w.heap.size w w3) := Below.andThen B2.out hb3
      have N3 : Hid (Below w2.heap.size w2 w3) := hb3
      have X3 := blk11 hb3 X2.out
      have e0 : w3.cell? ⟨wr.heap.size, 0, none⟩ = some (.int .u16 x.i) := by rw [cell_of_row _ _ 0 _ _ _ X3]; rfl
      have e1 : w3.cell? ⟨wr.heap.size, 1, none⟩ = some (.int .u8 x.s) := by rw [cell_of_row _ _ 1 _ _ _ X3]; rfl
      have HX3 : Hid (w3.heap[wr.heap.size]? = some (.cells #[.int .u16 x.i, .int .u8 x.s, .int .i64 (x.b : Int)] 48 (0, 0))) := X3
      clear hb3 d0 d1 d2 X3
      cases gp with
      | true =>
        have FR : Hid (IsV w3 w.heap.size u11 us ∧ us.length ≤ k + 1 ∧ Vs w3 w.heap.size us rs ∧ RES = unC mc zs (ms.drop (k + 1)) (sumB ms (k + 1)) ∧ ROWS = rs ++ unV zs (ms.drop (k + 1)) (sumB ms (k + 1)) ∧ w3.heap[w.heap.size]? = some (.cells #[.slice a len capb] 34 (0, 0)) ∧ w3.heap[Bx]? = some (.cells #[.int .i64 ((sumB ms (k + 1) : Nat) : Int)] 3 (0, 0)) ∧ Below w.heap.size w w3) := by
          refine ⟨V2.out.next N3.out, by have := R2.out; omega, J2.out.mv fun g' C hg' => blk11 N3.out hg', ?_, ?_, blk11 N3.out A2.out, blk11 N3.out XX2.out, B3.out⟩
          · rw [RC.out]; simp
          · rw [RV.out]; simp
        clear RC RV
        go_wp2_with fail
        exact ⟨⟨k + 1, us, rs, by omega, by go_num, FR.out⟩, by simp [intOf]; omega⟩
      | false =>
        obtain ⟨y, hy⟩ : ∃ y, Hid (y = mc x (tkB zs (sumB ms k) x.b)) := ⟨_, rfl⟩
        rw [← hy.out] at RC
        have MY := HY.out w3 B3.out x HXm.out hgp.out.symm (tkB zs (sumB ms k) x.b) g (tkB_len _ _ _) OT.out (blk11 N3.out G2.out)
        rw [← hy.out] at MY
        go_wp2_with fail
        refine MY.mono ?_
        clear MY
        rintro e w4 ⟨tg, rfl, hb4⟩
        have B4 : Hid (Below w.heap.size w w4) := Below.andThen B3.out hb4
        have N4 : Hid (Below w2.heap.size w2 w4) := Below.andThen N3.out hb4
        have X4 := blk11 hb4 HX3.out
        have f0 : w4.cell? ⟨wr.heap.size, 0, none⟩ = some (.int .u16 x.i) := by rw [cell_of_row _ _ 0 _ _ _ X4]; rfl
        have f1 : w4.cell? ⟨wr.heap.size, 1, none⟩ = some (.int .u8 x.s) := by rw [cell_of_row _ _ 1 _ _ _ X4]; rfl
        have V4 : Hid (IsV w4 w.heap.size u11 us) := V2.out.next N4.out
        clear hb4 e0 e1 X4
        by_cases hy0 : y = 0
        case neg =>
          have FR : Hid (∀ e, e = .returned (.tuple #[.slice none 0 0, .int .u32 y]) → UPost w RES ROWS e w4) := fun e he => by
            have hres : RES = y := by rw [RC.out]; simp [hy0]
            exact ⟨.inl ⟨by rw [hres]; exact hy0, by rw [hres]; exact he⟩, B4.out⟩
          clear RC RV
          go_wp2_with fail
          go_ret2
          exact FR.out _ rfl
        subst hy0
        have RC2 : Hid (RES = unC mc zs (ms.drop (k + 1)) (sumB ms (k + 1))) := by show _ = _; rw [RC.out]; simp
        have RV2 : Hid (ROWS = (rs ++ [(x.i, x.s, tkB zs (sumB ms k) x.b)]) ++ unV zs (ms.drop (k + 1)) (sumB ms (k + 1))) := by show _ = _; rw [RV.out]; simp
        clear RC RV
        have hul : us.length ≤ 1000000 := by have := R2.out; omega
        go_wp2_with (first | (at_builtin; refine wpList_append_value rfl _ _ rfl w.heap.size u11 us rfl (V4.out.next (by repeat (first | exact Below.refl _ _ | apply Below.drew | apply Below.al))) ⟨w4.heap.size, 0, none⟩ ⟨x.i, x.s, g, (x.b + 7) / 8⟩ rfl ?q1 hul ?q2 ?_) | go_in)
        case q1 =>
          intro j u hj
          rw [Addr.add_lit, Nat.zero_add]
          match j, hj with
          | 0, hj => rw [cell_of_row _ _ 0 _ _ _ (at11 _ _ _ rfl)]; simpa [Vq.L] using hj
          | 1, hj => rw [cell_of_row _ _ 1 _ _ _ (at11 _ _ _ rfl)]; simpa [Vq.L] using hj
          | 2, hj => rw [cell_of_row _ _ 2 _ _ _ (at11 _ _ _ rfl)]; simpa [Vq.L] using hj
        case q2 => have := B4.out.size; simp; omega
        intro v' z hz hgr
        have KEEP : ∀ (b : Nat) (C : Array Value) (T : TypeId) (f : Nat × Nat), w4.heap[b]? = some (.cells C T f) → T ≠ 36 → z.heap[b]? = some (.cells C T f) := fun b C T f hb hT => by
          rw [hgr.block b (by have := lt_of_heap hb; simp; omega) (V4.out.ne hb hT), Below.heap_alloc _ _ _ (lt_of_heap hb)]
          exact hb
        have BZ : Hid (Below w.heap.size w z) := ⟨hgr.os.trans B4.out.os, hgr.tape.trans B4.out.tape, hgr.output.trans B4.out.output, by have := hgr.size; simp at this; have := B4.out.size; omega, fun kk hkk => by
          have s4 := B4.out.size
          rw [hgr.block kk (by simp; omega) (fun e => by have := (V4.out.lt kk e.symm).1; omega), Below.heap_alloc _ _ _ (by omega)]
          exact B4.out.block kk hkk⟩
        have FIN : Hid (IsV z w.heap.size v' (us ++ [⟨x.i, x.s, g, (x.b + 7) / 8⟩]) ∧ (us ++ [(⟨x.i, x.s, g, (x.b + 7) / 8⟩ : Vq)]).length ≤ k + 1 ∧ Vs z w.heap.size (us ++ [(⟨x.i, x.s, g, (x.b + 7) / 8⟩ : Vq)]) (rs ++ [(x.i, x.s, tkB zs (sumB ms k) x.b)]) ∧ RES = unC mc zs (ms.drop (k + 1)) (sumB ms (k + 1)) ∧ ROWS = (rs ++ [(x.i, x.s, tkB zs (sumB ms k) x.b)]) ++ unV zs (ms.drop (k + 1)) (sumB ms (k + 1)) ∧ z.heap[w.heap.size]? = some (.cells #[.slice a len capb] 34 (0, 0)) ∧ z.heap[Bx]? = some (.cells #[.int .i64 ((sumB ms (k + 1) : Nat) : Int)] 3 (0, 0)) ∧ Below w.heap.size w z) := by
          refine ⟨hz, by have := R2.out; simp; omega, ?_, RC2.out, RV2.out, KEEP _ _ _ _ (blk11 N4.out A2.out) (by decide), KEEP _ _ _ _ (blk11 N4.out XX2.out) (by decide), BZ.out⟩
          exact (J2.out.mv fun g' C hg' => KEEP _ _ _ _ (blk11 N4.out hg') (by decide)).app (tkB_len _ _ _) (by have := B2.out.size; have := R6s.out; omega) (KEEP _ _ _ _ (blk11 N4.out G2.out) (by decide))
        clear hz hgr KEEP f0 f1
        go_wp2_with fail
        exact ⟨⟨k + 1, _, _, by omega, by go_num, FIN.out⟩, by simp [intOf]; omega⟩
    · obtain rfl : k = N := by omega
      obtain ⟨r1, r2, r3, rC, rV, r4, r5, r6⟩ := HR.out
      have FR : Hid (∀ e, e = .returned (.tuple #[u11, .int .u32 0]) → UPost w RES ROWS e wr) := fun e he => by
        rw [List.drop_of_length_le (by omega)] at rC rV
        exact ⟨.inr ⟨rC, u11, us, he, r1, by rw [rV]; simp only [unV, List.append_nil]; exact r3⟩, r6⟩
      clear r1 r2 r3 rC rV r4 r5 r6 HR
      go_wp2_with fail
      go_ret2
      exact FR.out _ rfl
#print axioms may_code
#print axioms unpack_O
end Go.Proofs.YtcdmldnaagiicaaDoor
namespace Go.Proofs.YtcdmldnaagiicaaDoor
open Go.RowKit

set_option linter.unusedSimpArgs false in
set_option maxHeartbeats 4000000 in
set_option maxRecDepth 100000 in
theorem unpack_shortO (p : Nat) (ad : Option Addr) (gm off N cap : Nat) (ms : List Mq) (a : Option Addr) (len capb : Nat) (w : World) (hN : ms.length = N) (had : 0 < N → ad = some ⟨gm, off, none⟩) (h64 : N ≤ 64) (hM : MsO w gm off ms) (hC : ∀ W, Below w.heap.size w W → Calls Tryd.prog 8 #[.pointer (some ⟨p, 0, none⟩), .slice ad N cap, .bool false] W fun e w' => e = .returned (.int .u32 0) ∧ Below W.heap.size W w') (hs : sumB ms N ≤ 64) (hlen : len < (sumB ms N + 7) / 8) :
    Calls Tryd.prog 26 #[.pointer (some ⟨p, 0, none⟩), .slice ad N cap, .slice a len capb] w fun e w' => e = .returned (.tuple #[.slice none 0 0, .int .u32 101122064]) ∧ Below w.heap.size w w' := by
  obtain ⟨R, hR⟩ : ∃ R, Hid (R = (sumB ms N + 7) / 8) := ⟨_, rfl⟩
  have HC : Hid (∀ W, Below w.heap.size w W → Calls Tryd.prog 8 #[.pointer (some ⟨p, 0, none⟩), .slice ad N cap, .bool false] W fun e w' => e = .returned (.int .u32 0) ∧ Below W.heap.size W w') := hC
  have HS : Hid (∀ W, Below w.heap.size w W → Calls Tryd.prog 10 #[.slice ad N cap] W fun e w' => e = .returned (.int .i64 (R : Int)) ∧ Below W.heap.size W w') := fun W hb => by rw [hR.out]; exact size_O ad gm off N cap had ms W hN h64 (hM.next hb) hs
  have hRl : len < R := by have := hR.out; omega
  clear hM had hC
  go_enter Tryd.func26, Tryd.ntmps26
  go_wp2_with fail
  refine (HC.out _ (by repeat (first | exact Below.refl _ _ | apply Below.drew | apply Below.al))).mono ?_
  rintro e w1 ⟨rfl, hb1⟩
  have B1 : Hid (Below w.heap.size w w1) := Below.andThen (by repeat (first | exact Below.refl _ _ | apply Below.drew | apply Below.al)) hb1
  have HB1 : Hid (w1.heap[w.heap.size]? = some (.cells #[.slice a len capb] 34 (0, 0))) := blk11 hb1 (at11 _ _ _ rfl)
  clear hb1
  go_wp2_with fail
  refine wp_region_held_drew (S := fun z => Below w1.heap.size w1 z) (by kernel_rfl) (Below.drew (Below.refl _ _)) (fun hHeld => ?_)
  refine tk 0 (.slice a len capb) rfl (.inl ⟨by rfl, ?_⟩) ?_
  · intro w9 hSw
    try dsimp only at hSw
    have c9 : w9.cell? ⟨w.heap.size, 0, none⟩ = some (.slice a len capb) := by rw [cell_of_row _ _ 0 _ _ _ (blk11 hSw HB1.out)]; rfl
    go_simp
    all_goals try assumption
  try simp only [Act.put, gA, gS, gZ, sA, sZ, sS]
  refine tk 1 (.int .i64 (len : Int)) rfl (.inl ⟨by rfl, ?_⟩) ?_
  · intro w9 hSw
    try dsimp only at hSw
    go_simp
    all_goals try decide
    all_goals try assumption
    all_goals try omega
  try simp only [Act.put, gA, gS, gZ, sA, sZ, sS]
  refine tk 2 (.slice ad N cap) rfl (.inl ⟨by rfl, ?_⟩) ?_
  · intro w9 hSw
    try dsimp only at hSw
    go_simp
    all_goals try decide
    all_goals try assumption
    all_goals try omega
  try simp only [Act.put, gA, gS, gZ, sA, sZ, sS]
  refine wpAnyH_ready (rs := [3]) (by kernel_rfl) (by simp) ?_
  refine AllReadyH.cons rfl (fun K' hK => ?_) AllReadyH.nil
  rw [if_pos (by rfl)]
  simp only [gA, gS, gZ]
  go_wp2_with fail
  refine (HS.out _ (Below.andThen B1.out (Below.drew (Below.refl _ _)))).mono ?_
  rintro e z3 ⟨rfl, hb3⟩
  have N3 : Hid (Below w1.heap.size w1 z3) := Below.andThen (Below.drew (Below.refl _ _)) hb3
  clear hb3
  try go_wp2_with fail
  refine hK.out _ _ (N3.out) (fun hHeld => ?_)
  clear hK K'
  try simp only [Act.put, gA, gS, gZ, sA, sZ, sS]
  refine tk 4 (.bool true) rfl (.inl ⟨by rfl, ?_⟩) ?_
  · intro w9 hSw
    try dsimp only at hSw
    have q1 : (len : Int) < (R : Int) := by omega
    go_simp
    all_goals try omega
  try simp only [Act.put, gA, gS, gZ, sA, sZ, sS]
  refine wpAnyH_done (by kernel_rfl) ?_ _
  have B3 : Hid (Below w.heap.size w z3) := Below.andThen B1.out hHeld
  clear hHeld N3
  go_wp2_with fail
  go_ret2
  exact ⟨rfl, B3.out⟩

theorem row_own {w : World} {g n : Nat} {zb : List Int} (hn : zb.length = n) (ho : Oct zb) (hh : w.heap[g]? = some (.cells (zb.map (Value.int .u8)).toArray 5 (0, 0))) : Row w (some ⟨g, 0, none⟩) n zb := ⟨hn, ho, fun _ => ⟨g, 0, rfl, fun i hi => by
  rw [cell_of_row _ _ (0 + i) _ _ _ hh, List.getElem?_toArray, List.getElem?_map, Nat.zero_add, List.getElem?_eq_getElem (by omega)]
  simp [List.getD_eq_getElem?_getD, List.getElem?_eq_getElem (show i < zb.length by omega)]⟩⟩
theorem gpB_q {x : Mz} (h : 0 ≤ x.b) : gpB x.q = gapB x.i x.s x.b := by
  unfold gpB
  show gapB x.i x.s (x.b.toNat : Int) = _
  rw [Int.toNat_of_nonneg h]
/-- What May says of the places of a dictionary. -/
def MayC (p : Nat) (lst : Mp) (w : World) (mc : Mq → List Int → Int) : Prop := ∀ x : Mz, cfD lst false x = 0 → gpB x.q = false → ∀ W, Below w.heap.size w W → ∀ zb g, zb.length = (x.q.b + 7) / 8 → Oct zb → W.heap[g]? = some (.cells (zb.map (Value.int .u8)).toArray 5 (0, 0)) → Calls Tryd.prog 13 #[.pointer (some ⟨p, 0, none⟩), plV x.i x.s, .slice (some ⟨g, 0, none⟩) ((x.q.b + 7) / 8) ((x.q.b + 7) / 8)] W fun e w' => ∃ tg, e = .returned (.tuple #[.int .u8 tg, .int .u32 (mc x.q zb)]) ∧ Below W.heap.size W w'
theorem MayC.next {p : Nat} {lst : Mp} {w w' : World} {mc : Mq → List Int → Int} (h : MayC p lst w mc) (hb : Below w.heap.size w w') : MayC p lst w' mc := fun x h1 h2 W hW => h x h1 h2 W (Below.andThen hb hW)
theorem may_all (p m : Nat) (cg : Int) (lst : Mp) (val : Int → Int → List Int) (w : World) (hp : w.heap[p]? = some (.cells #[.map (some m), .int .i64 cg] 58 (0, 0))) (hm : IsM w m lst) (ho : ItOk w lst val) (hT : Ty.Tab64 w) : ∃ mc, MayC p lst w mc := by
  have each : ∀ q : Mq, ∃ f : List Int → Int, ∀ x : Mz, x.q = q → cfD lst false x = 0 → gpB x.q = false → ∀ W, Below w.heap.size w W → ∀ zb g, zb.length = (x.q.b + 7) / 8 → Oct zb → W.heap[g]? = some (.cells (zb.map (Value.int .u8)).toArray 5 (0, 0)) → Calls Tryd.prog 13 #[.pointer (some ⟨p, 0, none⟩), plV x.i x.s, .slice (some ⟨g, 0, none⟩) ((x.q.b + 7) / 8) ((x.q.b + 7) / 8)] W fun e w' => ∃ tg, e = .returned (.tuple #[.int .u8 tg, .int .u32 (f zb)]) ∧ Below W.heap.size W w' := fun q => by
    cases hl : lookP lst q.i q.s with
    | none =>
      refine ⟨fun _ => 0, fun x hx hc hg => ?_⟩
      subst hx
      exfalso
      have hb := cfD_bd hc
      rw [gpB_q hb.1] at hg
      unfold cfD at hc
      have hl : lookP lst x.i x.s = none := hl
      rw [if_neg (by rw [hg]; decide), hl] at hc
      exact absurd hc (miss_ne _ _)
    | some u =>
      obtain ⟨nm, t, rt, d, ld, cd, l, ll, cl, h, lh, ch, tg, gr, v, lv, cv, zd, zl, zh, rfl, r1, r2, r3, r4, g1, g2, g3, g4, g5⟩ := ho _ _ _ hl
      refine ⟨fun zb => Ty.chkN t zb zl zh, fun x hx hc hg W hW zb g hn hO hh => ?_⟩
      subst hx
      have hb := cfD_bd hc
      rw [gpB_q hb.1] at hg
      have hr : (bits .and .u8 rt 2 != 0) = true := by
        unfold cfD at hc
        have hl : lookP lst x.i x.s = _ := hl
        rw [if_neg (by rw [hg]; decide), hl] at hc
        simp only at hc
        split at hc
        · rename_i hq
          simp only [Bool.and_eq_true] at hq
          have h2 : (!(bits .and .u8 rt 2 == 0)) = true := hq.2
          simpa using h2
        · exact absurd hc (by decide)
      have h64 : (x.q.b + 7) / 8 ≤ 8 := by show (x.b.toNat + 7) / 8 ≤ 8; omega
      exact may_code p m cg lst x.i x.s nm t rt d ld cd l ll cl h lh ch tg gr v lv cv (some ⟨g, 0, none⟩) _ _ zb zl zh W (blk11 hW hp) (hm.next hW) hl ⟨row_own hn hO hh, Nat.le_refl _, by unfold maxLen; omega⟩ (r2.next hW) (r3.next hW) (tab_next hT hW) hr _ rfl
  obtain ⟨f, hf⟩ := Classical.axiomOfChoice each
  exact ⟨f, fun x => hf x.q x rfl⟩
theorem chkC_zeroB {lst : Mp} {out : Bool} {ms : List Mz} (h : chkC lst out ms = 0) : ms.length ≤ 64 ∧ (∀ x ∈ ms, cfD lst out x = 0) ∧ (∀ x ∈ ms, 0 ≤ x.b) ∧ sumB (ms.map Mz.q) ms.length ≤ 64 := by
  have hl : ms.length ≤ 64 := by
    unfold chkC at h
    split at h
    · exact absurd h (by decide)
    · omega
  have hz : (∀ x ∈ ms, cfD lst out x = 0) ∧ 0 + (ms.map (·.b)).sum ≤ 64 := by
    unfold chkC at h
    rw [if_neg (by omega)] at h
    exact chkZ_zero _ ms 0 h (by decide)
  have hb : ∀ x ∈ ms, 0 ≤ x.b := fun x hx => (cfD_bd (hz.1 x hx)).1
  refine ⟨hl, hz.1, hb, ?_⟩
  unfold sumB
  rw [List.take_of_length_le (by simp)]
  have := sum_q ms hb
  omega
/-- Unpack's code, of a mapping that may be. -/
def unR (mc : Mq → List Int → Int) (zs : List Int) (qs : List Mq) : Int := if zs.length < (sumB qs qs.length + 7) / 8 then 101122064 else unC mc zs qs 0
theorem unpack_any (p m : Nat) (cg : Int) (lst : Mp) (val : Int → Int → List Int) (ad : Option Addr) (g off cap : Nat) (ms : List Mz) (had : 0 < ms.length → ad = some ⟨g, off, none⟩) (w : World) (hp : w.heap[p]? = some (.cells #[.map (some m), .int .i64 cg] 58 (0, 0))) (hm : IsM w m lst) (ho : ItOk w lst val) (hM : MzAt w g off ms) (hi : ∀ x ∈ ms, 0 ≤ x.i ∧ x.i < 65536) (hc : chkC lst false ms = 0) (a : Option Addr) (len capb : Nat) (zs : List Int) (hr : Row w a len zs) (hlen : len ≤ 1000) (mc : Mq → List Int → Int) (hmc : MayC p lst w mc) :
    Calls Tryd.prog 26 #[.pointer (some ⟨p, 0, none⟩), .slice ad ms.length cap, .slice a len capb] w fun e w' => UPost w (unR mc zs (ms.map Mz.q)) (unV zs (ms.map Mz.q) 0) e w' := by
  obtain ⟨h64, hz, hb, hs⟩ := chkC_zeroB hc
  have HC : ∀ W, Below w.heap.size w W → Calls Tryd.prog 8 #[.pointer (some ⟨p, 0, none⟩), .slice ad ms.length cap, .bool false] W fun e w' => e = .returned (.int .u32 0) ∧ Below W.heap.size W w' := fun W hW => by
    have := check_any false p m cg lst val ad g off cap ms had W (blk11 hW hp) (hm.next hW) (ho.next hW) (hM.next hW) hi
    rw [hc] at this
    exact this
  have hl := hr.size
  unfold unR
  rw [List.length_map, hl]
  by_cases hlt : len < (sumB (ms.map Mz.q) ms.length + 7) / 8
  · rw [if_pos hlt]
    exact (unpack_shortO p ad g off ms.length cap (ms.map Mz.q) a len capb w (by simp) had h64 (hM.o hb) HC hs hlt).mono fun e w' ⟨h1, h2⟩ => ⟨.inl ⟨by decide, h1⟩, h2⟩
  · rw [if_neg hlt]
    refine unpack_O p ad g off ms.length cap (ms.map Mz.q) mc a len capb zs w (by simp) had h64 (hM.o hb) (fun y hy => ?_) HC hs hr (by omega) hlen (fun W hW y hy hg zb g' hn hO hh => ?_)
    · obtain ⟨x, hx, rfl⟩ := List.mem_map.1 hy
      exact hi x hx
    · obtain ⟨x, hx, rfl⟩ := List.mem_map.1 hy
      exact hmc x (hz x hx) hg W hW zb g' hn hO hh
theorem bitA_drop (zs : List Int) (n k : Nat) : bitA zs (8 * n + k) = bitA (zs.drop n) k := by
  unfold bitA
  rw [show (8 * n + k) / 8 = n + k / 8 by omega, show (8 * n + k) % 8 = k % 8 by omega, List.getD_eq_getElem?_getD, List.getD_eq_getElem?_getD, List.getElem?_drop]
theorem layL_drop (zs : List Int) (n off fr : Nat) {cnt : Nat} (ys : List Int) (pre : List (BX cnt)) : layL zs (8 * n + off) fr ys pre = layL (zs.drop n) off fr ys pre := by
  unfold layL
  induction pre generalizing ys with
  | nil => rfl
  | cons x l ih => simp only [List.foldl_cons]; rw [Nat.add_assoc (8 * n), bitA_drop]; exact ih _
theorem tkB_drop (zs : List Int) (n nx b : Nat) : tkB zs (8 * n + nx) b = tkB (zs.drop n) nx b := layL_drop zs n nx 0 _ _
theorem unC_drop (mc : Mq → List Int → Int) (zs : List Int) (n : Nat) : ∀ (l : List Mq) (k : Nat), unC mc zs l (8 * n + k) = unC mc (zs.drop n) l k
  | [], _ => rfl
  | x :: l, k => by simp only [unC]; rw [tkB_drop, Nat.add_assoc, unC_drop mc zs n l (k + x.b)]
theorem unV_drop (zs : List Int) (n : Nat) : ∀ (l : List Mq) (k : Nat), unV zs l (8 * n + k) = unV (zs.drop n) l k
  | [], _ => rfl
  | x :: l, k => by simp only [unV]; rw [tkB_drop, Nat.add_assoc, unV_drop zs n l (k + x.b)]
theorem chkZ_mono (cf : Mz → Int) : ∀ (ms : List Mz) (n k : Int), chkZ cf ms n = 0 → k ≤ n → chkZ cf ms k = 0
  | [], _, _, _, _ => rfl
  | x :: l, n, k, h, hk => by
    simp only [chkZ] at h ⊢
    split at h
    · rename_i h1; exact absurd h h1
    · rename_i h1
      split at h
      · exact absurd h (by decide)
      · rename_i h2
        rw [if_neg h1, if_neg (by omega)]
        exact chkZ_mono cf l _ _ h (by omega)
/-- A gap ahead of a mapping. -/
def gapZ (n : Nat) (t : Int) : Mz := ⟨t, 0, ((8 * n : Nat) : Int)⟩
theorem sumB_cons (x : Mq) (l : List Mq) (k : Nat) : sumB (x :: l) (k + 1) = x.b + sumB l k := by unfold sumB; simp
theorem gap_ahead (lst : Mp) (mc : Mq → List Int → Int) (zs : List Int) (n : Nat) (t : Int) (ms : List Mz) (hg : gapB t 0 ((8 * n : Nat) : Int) = true) (hl : n ≤ zs.length) (hc : chkC lst false (gapZ n t :: ms) = 0) : chkC lst false ms = 0 ∧ unR mc zs ((gapZ n t :: ms).map Mz.q) = unR mc (zs.drop n) (ms.map Mz.q) ∧ unV zs ((gapZ n t :: ms).map Mz.q) 0 = unV (zs.drop n) (ms.map Mz.q) 0 := by
  have gq : gpB (gapZ n t).q = true := by rw [gpB_q (by show (0 : Int) ≤ ((8 * n : Nat) : Int); omega)]; exact hg
  have bq : (gapZ n t).q.b = 8 * n := rfl
  refine ⟨?_, ?_, ?_⟩
  · unfold chkC at hc ⊢
    split at hc
    · exact absurd hc (by decide)
    · rename_i h1
      rw [if_neg (by simp at h1; omega)]
      have h2 := (show chkZ (cfD lst false) (gapZ n t :: ms) 0 = 0 from hc)
      simp only [chkZ] at h2
      split at h2
      · rename_i h3; exact absurd h2 h3
      · split at h2
        · exact absurd h2 (by decide)
        · exact chkZ_mono _ ms _ 0 h2 (by show (0 : Int) ≤ 0 + ((8 * n : Nat) : Int); omega)
  · unfold unR
    rw [List.map_cons, List.length_cons, sumB_cons, bq, List.length_drop]
    have e1 : unC mc zs ((gapZ n t).q :: ms.map Mz.q) 0 = unC mc (zs.drop n) (ms.map Mz.q) 0 := by
      simp only [unC]
      rw [if_pos gq, show (0 + (gapZ n t).b.toNat) = 8 * n + 0 by show 0 + ((8 * n : Nat) : Int).toNat = _; omega, unC_drop]
    rw [e1]
    by_cases h : zs.length < (8 * n + sumB (ms.map Mz.q) (ms.map Mz.q).length + 7) / 8
    · rw [if_pos h, if_pos (by omega)]
    · rw [if_neg h, if_neg (by omega)]
  · rw [List.map_cons]
    simp only [unV]
    rw [if_pos gq, show (0 + (gapZ n t).b.toNat) = 8 * n + 0 by show 0 + ((8 * n : Nat) : Int).toNat = _; omega, unV_drop]
#print axioms unpack_any
#print axioms gap_ahead
end Go.Proofs.YtcdmldnaagiicaaDoor
namespace Go.Proofs.YtcdmldnaagiicaaDoor
open Go.RowKit

/-- A Map's cells. -/
def Mz.L (x : Mz) : List Value := [.int .u16 x.i, .int .u8 x.s, .int .i64 x.b]
def flz (l : List Mz) : List Value := l.flatMap Mz.L
theorem Mz.L_len (x : Mz) : x.L.length = 3 := rfl
theorem flz_len (l : List Mz) : (flz l).length = l.length * 3 := by
  unfold flz
  induction l with
  | nil => rfl
  | cons x l ih => rw [List.flatMap_cons, List.length_append, ih, Mz.L_len, List.length_cons]; omega
theorem flz_app (l m : List Mz) : flz (l ++ m) = flz l ++ flz m := by unfold flz; rw [List.flatMap_append]
theorem flz_at (l : List Mz) (i : Nat) (x : Mz) (h : l[i]? = some x) (c : Nat) (hc : c < 3) : (flz l)[i * 3 + c]? = x.L[c]? := by
  obtain ⟨hi, he⟩ := List.getElem?_eq_some_iff.1 h
  have e : l = l.take i ++ (x :: l.drop (i + 1)) := by rw [← he, List.getElem_cons_drop, List.take_append_drop]
  have e2 : flz l = flz (l.take i) ++ (x.L ++ flz (l.drop (i + 1))) := by
    conv => lhs; rw [e]
    rw [flz_app]
    rfl
  have hl : (flz (l.take i)).length = i * 3 := by rw [flz_len, List.length_take]; congr 1; omega
  rw [e2, List.getElem?_append_right (by omega), hl, show i * 3 + c - i * 3 = c by omega, List.getElem?_append_left (by rw [Mz.L_len]; exact hc)]
theorem MzAt.news {w : World} {g off : Nat} {ms : List Mz} (h : MzAt w g off ms) : ∀ j u, (flz ms)[j]? = some u → w.cell? ((⟨g, off, none⟩ : Addr).add j) = some u := fun j u hu => by
  have hj := (List.getElem?_eq_some_iff.1 hu).1
  rw [flz_len] at hj
  obtain ⟨x, hx⟩ : ∃ x, ms[j / 3]? = some x := ⟨_, List.getElem?_eq_getElem (by omega)⟩
  have hc : j % 3 < 3 := Nat.mod_lt _ (by decide)
  have e := flz_at ms (j / 3) x hx (j % 3) hc
  rw [show j / 3 * 3 + j % 3 = j by omega, hu] at e
  obtain ⟨c0, c1, c2⟩ := h (j / 3) x hx
  rw [Addr.add_lit]
  rcases (by omega : j % 3 = 0 ∨ j % 3 = 1 ∨ j % 3 = 2) with q | q | q
  · rw [q] at e
    rw [show off + j = off + j / 3 * 3 by omega, c0]
    simpa [Mz.L] using e.symm
  · rw [q] at e
    rw [show off + j = off + j / 3 * 3 + 1 by omega, c1]
    simpa [Mz.L] using e.symm
  · rw [q] at e
    rw [show off + j = off + j / 3 * 3 + 2 by omega, c2]
    simpa [Mz.L] using e.symm
theorem mz_own {w : World} {base g cap n : Nat} {l : List Mz} (hn : l.length = n) (h : w.ownsRow base 48 3 (.slice (some ⟨g, 0, none⟩) n cap) n (flz l)) : MzAt w g 0 l := by
  rcases h.2 with ⟨h1, _⟩ | ⟨g', cap', cur, hv, hg, hh, hn', hm, hs, ht⟩
  · cases h1
  · cases hv
    intro j x hx
    have hj := (List.getElem?_eq_some_iff.1 hx).1
    have q : ∀ c, c < 3 → cur[j * 3 + c]? = x.L[c]? := fun c hc => by
      rw [← flz_at l j x hx c hc, ← ht, List.getElem?_take, if_pos (by omega)]
      simp
    refine ⟨?_, ?_, ?_⟩
    · rw [cell_of_row w g _ _ _ _ hh, Nat.zero_add]; exact q 0 (by decide)
    · rw [cell_of_row w g _ _ _ _ hh, Nat.zero_add]; exact q 1 (by decide)
    · rw [cell_of_row w g _ _ _ _ hh, Nat.zero_add]; exact q 2 (by decide)
theorem infoMz : (Tryd.prog.info? 48).map (fun i => (i.zero, i.size, i.bytes)) = some (some (.agg #[.int .u16 0, .int .u8 0, .int .i64 0]), 3, 16) := by kernel_rfl
/-- Maps that came in, behind one Map. -/
theorem wpList_append_mz {ops : Array Oper} {rest : List Oper} {o : Oper} {a : Act} {w : World} {Q : Exit → Act → World → Prop} (hgd : o.guard = none) (s x : Operand)
    (ho : o.op = .call { callee := .builtin .append, args := #[s, x], argTypes := #[23, 23] }) (base G : Nat) (hG : base ≤ G) (y : Mz) (hs : a.eval s = .slice (some ⟨G, 0, none⟩) 1 1) (hy : w.heap[G]? = some (.cells #[.int .u16 y.i, .int .u8 y.s, .int .i64 y.b] 48 (0, 0)))
    (a1 : Option Addr) (len1 cap1 : Nat) (ms : List Mz) (hx : a.eval x = .slice a1 len1 cap1) (hN : ms.length = len1) (g off : Nat) (had : 0 < ms.length → a1 = some ⟨g, off, none⟩) (hM : MzAt w g off ms) (h60 : len1 ≤ 1000) (hbase : base ≤ w.heap.size)
    (h : ∀ g' cap' w', MzAt w' g' 0 (y :: ms) → Below base w w' → wpList Tryd.prog ops Q rest (a.put o.dst (.slice (some ⟨g', 0, none⟩) (len1 + 1) cap')) w') : wpList Tryd.prog ops Q (o :: rest) a w := by
  obtain ⟨i0, hi, hz0, hz1, hz2⟩ := info_parts infoMz
  have own : w.ownsRow base 48 3 (.slice (some ⟨G, 0, none⟩) 1 1) 1 (flz [y]) := ⟨rfl, .inr ⟨G, 1, _, rfl, hG, hy, Nat.le_refl _, by decide, rfl, rfl⟩⟩
  by_cases h0 : len1 = 0
  · subst h0
    have hm : ms = [] := List.eq_nil_of_length_eq_zero hN
    subst hm
    have src : Src Tryd.prog i0.size 23 (.slice a1 0 cap1) 0 [] w := by
      cases a1 with
      | none => exact Src.ofNil w Tryd.underlying23 cap1
      | some z => exact Src.ofSlice w Tryd.underlying23 z 0 cap1 [] (by simp) (fun j u hu => by simp at hu) (fun u hu => by simp at hu)
    have hrun := run_append_nothing (P := Tryd.prog) w 23 23 o.type 48 i0 Tryd.underlying23 hi (some ⟨G, 0, none⟩) 1 1 (Nat.le_refl _) _ src
    refine wpList_plain hgd fun K hK => ?_
    unfold Oper.wp
    simp [execOp, ho, resolve, invoke, builtin, hs, hx, hrun, Result.andThen]
    exact hK _ _ (h G 1 w (mz_own rfl own) ⟨rfl, rfl, rfl, Nat.le_refl _, fun _ _ => rfl⟩)
  · obtain rfl := had (by omega)
    refine wpList_append_own (P := Tryd.prog) w hgd s x 23 ho base 48 i0 _ 3 16 Tryd.underlying23 hi hz0 hz1 hz2 rfl (by decide) _ 1 _ hs own ⟨g, off, none⟩ len1 cap1 (flz ms) hx (by rw [flz_len, hN]) hM.news (fun u hu => by
      obtain ⟨z, _, hz⟩ := List.mem_flatMap.1 hu
      simp [Mz.L] at hz
      rcases hz with rfl | rfl | rfl <;> rfl) (by unfold maxLen; omega) (by omega) hbase ?_
    intro v' w' h1 h2 _
    rw [← flz_app] at h1
    rcases h1.2 with ⟨_, h3⟩ | ⟨g', cap', cur, hv, hb', hr⟩
    · omega
    · have e : 1 + len1 = len1 + 1 := by omega
      rw [e] at hv hr h1
      subst hv
      refine h g' cap' w' (mz_own (by simp [hN]) h1) ⟨h2.os, h2.tape, h2.output, by have := h2.size; omega, fun k hk => h2.block k (by omega) (fun e' => ?_)⟩
      simp only [Value.ownBlock, Option.some.injEq] at e'
      omega
/-- What Unpack answers, in one form. -/
theorem UPost.form {w : World} {RES : Int} {ROWS : List (Int × Int × List Int)} {e : Ending} {w' : World} (h : UPost w RES ROWS e w') (RW : List (Int × Int × List Int)) (hRW : RW = if RES = 0 then ROWS else []) : ∃ va vc us, e = .returned (.tuple #[.slice va RW.length vc, .int .u32 RES]) ∧ us.length = RW.length ∧ (0 < RW.length → ∃ g, va = some ⟨g, 0, none⟩) ∧ IsV w' w.heap.size (.slice va us.length vc) us ∧ Vs w' w.heap.size us RW ∧ Below w.heap.size w w' := by
  subst hRW
  obtain ⟨h | ⟨h0, v, us, he, hv, hs⟩, hb⟩ := h
  · rw [if_neg h.1]
    exact ⟨none, 0, [], h.2, rfl, fun h => absurd h (by simp), isV_nil _ _, vs_nil _ _, hb⟩
  · rw [h0, if_pos rfl]
    have hl := hs.1
    rcases hv.form with ⟨h1, h2⟩ | ⟨g, cap, cur, h1, _⟩
    · subst h1 h2
      exact ⟨none, 0, [], by rw [← hl]; exact he, hl, fun h => by rw [← hl] at h; simp at h, hv, hs, hb⟩
    · subst h1
      exact ⟨_, cap, us, by rw [← hl]; exact he, hl, fun _ => ⟨g, rfl⟩, hv, hs, hb⟩
theorem Row.dropA {w : World} {b off len : Nat} {zs : List Int} (h : Row w (some ⟨b, off, none⟩) len zs) (n : Nat) (a3 : Option Addr) (ha : n < len → a3 = some ⟨b, off + n, none⟩) : Row w a3 (len - n) (zs.drop n) := ⟨by rw [List.length_drop, h.size], fun x hx => h.oct x (List.mem_of_mem_drop hx), fun hp => by
  obtain ⟨b', off', e, hc⟩ := h.at_ (by omega)
  cases e
  refine ⟨b, off + n, ha (by omega), fun i hi => ?_⟩
  rw [Nat.add_assoc, hc (n + i) (by omega), List.getD_eq_getElem?_getD, List.getD_eq_getElem?_getD, List.getElem?_drop]⟩
/-- The cells of a value. -/
theorem IsV.at {w : World} {base g cap : Nat} {l : List Vq} (h : IsV w base (.slice (some ⟨g, 0, none⟩) l.length cap) l) (i : Nat) (x : Vq) (hx : l[i]? = some x) : w.cell? ⟨g, i * 3, none⟩ = some (.int .u16 x.i) ∧ w.cell? ⟨g, i * 3 + 1, none⟩ = some (.int .u8 x.s) ∧ w.cell? ⟨g, i * 3 + 2, none⟩ = some (.slice (some ⟨x.g, 0, none⟩) x.r x.r) := by
  have hi : i < l.length := (List.getElem?_eq_some_iff.1 hx).1
  rcases h.form with ⟨h1, _⟩ | ⟨g', cap', cur, hv, _, hh, hn, _, hs, ht⟩
  · cases h1
  · cases hv
    have q : ∀ c, c < 3 → cur[i * 3 + c]? = x.L[c]? := fun c hc => by
      rw [← flv_at l i x hx, ← ht, List.getElem?_take, if_pos hc, List.getElem?_drop, List.getElem?_take, if_pos (by omega)]
      simp
    exact ⟨by rw [cell_of_row w g _ _ _ _ hh]; exact q 0 (by decide), by rw [cell_of_row w g _ _ _ _ hh]; exact q 1 (by decide), by rw [cell_of_row w g _ _ _ _ hh]; exact q 2 (by decide)⟩
#print axioms wpList_append_mz
#print axioms UPost.form
#print axioms IsV.at
end Go.Proofs.YtcdmldnaagiicaaDoor
namespace Go.Proofs.YtcdmldnaagiicaaDoor
open Go.RowKit

/-- What an item of a dictionary is. -/
structure It where
  t : Int
  rt : Int
  tg : Int
  zl : List Int
  zh : List Int
  zv : List Int
/-- The items of a dictionary, place by place. -/
def ItD (W : World) (lst : Mp) (I : Int → Int → Option It) : Prop := ∀ i s : Int, (lookP lst i s = none ∧ I i s = none) ∨ ∃ x : It, I i s = some x ∧ ∃ nm d ld cd l ll cl h lh ch gr v lv cv zd, lookP lst i s = some (.agg (itC i s nm x.t x.rt d ld cd l ll cl h lh ch x.tg gr v lv cv)) ∧ SlOk W d ld cd zd ∧ SlOk W l ll cl x.zl ∧ SlOk W h lh ch x.zh ∧ SlOk W v lv cv x.zv ∧ ld ≤ 16777216 ∧ ll ≤ 16777216 ∧ lh ≤ 16777216 ∧ lv ≤ 16777216 ∧ (0 < Ty.Pl.sizeN x.t → (lv : Int) = Ty.Pl.sizeN x.t)
theorem ItD.next {W W' : World} {lst : Mp} {I : Int → Int → Option It} (h : ItD W lst I) (hb : Below W.heap.size W W') : ItD W' lst I := fun i s => by
  rcases h i s with h | ⟨x, hx, nm, d, ld, cd, l, ll, cl, h, lh, ch, gr, v, lv, cv, zd, e, r1, r2, r3, r4, r5⟩
  · exact .inl h
  · exact .inr ⟨x, hx, nm, d, ld, cd, l, ll, cl, h, lh, ch, gr, v, lv, cv, zd, e, r1.next hb, r2.next hb, r3.next hb, r4.next hb, r5⟩
/-- The values of a dictionary. -/
def valI (I : Int → Int → Option It) (i s : Int) : List Int := match I i s with
  | none => []
  | some x => x.zv
theorem ItD.ok {W : World} {lst : Mp} {I : Int → Int → Option It} (h : ItD W lst I) : ItOk W lst (valI I) := fun i s u hu => by
  rcases h i s with ⟨h, _⟩ | ⟨x, hx, nm, d, ld, cd, l, ll, cl, h, lh, ch, gr, v, lv, cv, zd, e, r1, r2, r3, r4, g1, g2, g3, g4, g5⟩
  · rw [h] at hu; cases hu
  · rw [e] at hu
    cases hu
    exact ⟨nm, x.t, x.rt, d, ld, cd, l, ll, cl, h, lh, ch, x.tg, gr, v, lv, cv, zd, x.zl, x.zh, rfl, r1, r2, r3, by unfold valI; rw [hx]; exact r4, g1, g2, g3, g4, g5⟩
/-- May's code of a place and bytes. -/
def mayK (lst : Mp) (I : Int → Int → Option It) (i s : Int) (zb : List Int) : Int := match I i s with
  | none => missC lst i
  | some x => if (bits .and .u8 x.rt 2 != 0) = true then Ty.chkN x.t zb x.zl x.zh else 100728834

set_option linter.unusedSimpArgs false in
set_option maxHeartbeats 4000000 in
set_option maxRecDepth 100000 in
theorem may_miss (p m : Nat) (cg : Int) (lst : Mp) (i s : Int) (b : Option Addr) (lb cb : Nat) (w : World) (hp : w.heap[p]? = some (.cells #[.map (some m), .int .i64 cg] 58 (0, 0))) (hm : IsM w m lst) (hl : lookP lst i s = none) (mc : Int) (hmc : mc = missC lst i) :
    Calls Tryd.prog 13 #[.pointer (some ⟨p, 0, none⟩), plV i s, .slice b lb cb] w fun e w' => ∃ g, e = .returned (.tuple #[.int .u8 g, .int .u32 mc]) ∧ Below w.heap.size w w' := by
  have HF : Hid (∀ W, Below w.heap.size w W → Calls Tryd.prog 27 #[.pointer (some ⟨p, 0, none⟩), plV i s] W fun e w' => e = .returned (.tuple #[.agg (itC 0 0 ⟨#[]⟩ 0 0 none 0 0 none 0 0 none 0 0 0 0 none 0 0), .int .u32 mc]) ∧ Below W.heap.size W w') := fun W hb => by rw [hmc]; exact find_miss p m cg lst i s W (blk11 hb hp) (hm.next hb) hl
  have mz : mc ≠ 0 := by rw [hmc]; exact miss_ne lst i
  clear hp hm hl hmc
  go_enter Tryd.func13, Tryd.ntmps13
  go_wp2_with fail
  refine (HF.out _ (by repeat (first | exact Below.refl _ _ | apply Below.drew | apply Below.al))).mono ?_
  rintro e w1 ⟨rfl, hb⟩
  have B1 : Hid (Below w.heap.size w w1) := Below.andThen (by repeat (first | exact Below.refl _ _ | apply Below.drew | apply Below.al)) hb
  clear hb
  go_wp2_with fail
  go_ret2
  exact ⟨_, rfl, Below.al B1.out _⟩
set_option linter.unusedSimpArgs false in
set_option maxHeartbeats 4000000 in
set_option maxRecDepth 100000 in
theorem may_ro (p m : Nat) (cg : Int) (lst : Mp) (i s : Int) (nm : ByteArray) (t rt : Int) (d : Option Addr) (ld cd : Nat) (l : Option Addr) (ll cl : Nat) (h : Option Addr) (lh ch : Nat) (tg gr : Int) (v : Option Addr) (lv cv : Nat) (b : Option Addr) (lb cb : Nat) (w : World) (hp : w.heap[p]? = some (.cells #[.map (some m), .int .i64 cg] 58 (0, 0))) (hm : IsM w m lst) (hl : lookP lst i s = some (.agg (itC i s nm t rt d ld cd l ll cl h lh ch tg gr v lv cv)))
    (hr : (bits .and .u8 rt 2 != 0) = false) :
    Calls Tryd.prog 13 #[.pointer (some ⟨p, 0, none⟩), plV i s, .slice b lb cb] w fun e w' => ∃ g, e = .returned (.tuple #[.int .u8 g, .int .u32 100728834]) ∧ Below w.heap.size w w' := by
  have HF : Hid (∀ W, Below w.heap.size w W → Calls Tryd.prog 27 #[.pointer (some ⟨p, 0, none⟩), plV i s] W fun e w' => e = .returned (.tuple #[.agg (itC i s nm t rt d ld cd l ll cl h lh ch tg gr v lv cv), .int .u32 0]) ∧ Below W.heap.size W w') := fun W hb => find_at p m cg lst i s nm t rt d ld cd l ll cl h lh ch tg gr v lv cv W (blk11 hb hp) (hm.next hb) hl
  have HH : Hid (∀ W, Calls Tryd.prog 28 #[.agg (itC i s nm t rt d ld cd l ll cl h lh ch tg gr v lv cv), .int .u8 2] W fun e w' => e = .returned (.bool false) ∧ Below W.heap.size W w') := fun W => by
    have := has_any i s nm t rt d ld cd l ll cl h lh ch tg gr v lv cv 2 W
    rw [hr] at this
    exact this
  clear hp hm hl hr
  go_enter Tryd.func13, Tryd.ntmps13
  go_wp2_with fail
  refine (HF.out _ (by repeat (first | exact Below.refl _ _ | apply Below.drew | apply Below.al))).mono ?_
  rintro e w1 ⟨rfl, hb⟩
  have B1 : Hid (Below w.heap.size w w1) := Below.andThen (by repeat (first | exact Below.refl _ _ | apply Below.drew | apply Below.al)) hb
  clear hb
  go_wp2_with fail
  refine (HH.out _).mono ?_
  rintro e w2 ⟨rfl, hb⟩
  have B2 : Hid (Below w.heap.size w w2) := Below.andThen (Below.al B1.out _) hb
  clear hb
  go_wp2_with fail
  go_ret2
  exact ⟨_, rfl, B2.out⟩
/-- May of any place. -/
theorem may_dic (p m : Nat) (cg : Int) (lst : Mp) (I : Int → Int → Option It) (i s : Int) (b : Option Addr) (lb cb : Nat) (zb : List Int) (w : World) (hp : w.heap[p]? = some (.cells #[.map (some m), .int .i64 cg] 58 (0, 0))) (hm : IsM w m lst) (hI : ItD w lst I) (rb : SlOk w b lb cb zb) (hT : Ty.Tab64 w) :
    Calls Tryd.prog 13 #[.pointer (some ⟨p, 0, none⟩), plV i s, .slice b lb cb] w fun e w' => ∃ g, e = .returned (.tuple #[.int .u8 g, .int .u32 (mayK lst I i s zb)]) ∧ Below w.heap.size w w' := by
  rcases hI i s with ⟨h1, h2⟩ | ⟨x, hx, nm, d, ld, cd, l, ll, cl, h, lh, ch, gr, v, lv, cv, zd, e, r1, r2, r3, r4, g1, g2, g3, g4, g5⟩
  · rw [show mayK lst I i s zb = missC lst i by unfold mayK; rw [h2]]
    exact may_miss p m cg lst i s b lb cb w hp hm h1 _ rfl
  · cases hr : (bits .and .u8 x.rt 2 != 0) with
    | false =>
      rw [show mayK lst I i s zb = 100728834 by unfold mayK; rw [hx]; simp only; rw [hr]; rfl]
      exact may_ro p m cg lst i s nm x.t x.rt d ld cd l ll cl h lh ch x.tg gr v lv cv b lb cb w hp hm e hr
    | true =>
      rw [show mayK lst I i s zb = Ty.chkN x.t zb x.zl x.zh by unfold mayK; rw [hx]; simp only; rw [hr]; rfl]
      exact may_code p m cg lst i s nm x.t x.rt d ld cd l ll cl h lh ch x.tg gr v lv cv b lb cb zb x.zl x.zh w hp hm e rb r2 r3 hT hr _ rfl
set_option linter.unusedSimpArgs false in
set_option maxHeartbeats 4000000 in
set_option maxRecDepth 100000 in
theorem write_no (pv : Value) (i s : Int) (b : Option Addr) (lb cb : Nat) (mc : Int) (hmc : mc ≠ 0) (w : World) (HM : ∀ W, Below w.heap.size w W → Calls Tryd.prog 13 #[pv, plV i s, .slice b lb cb] W fun e w' => ∃ g, e = .returned (.tuple #[.int .u8 g, .int .u32 mc]) ∧ Below W.heap.size W w') :
    Calls Tryd.prog 7 #[pv, plV i s, .slice b lb cb] w fun e w' => e = .returned (.int .u32 mc) ∧ Below w.heap.size w w' := by
  have HMM : Hid (∀ W, Below w.heap.size w W → Calls Tryd.prog 13 #[pv, plV i s, .slice b lb cb] W fun e w' => ∃ g, e = .returned (.tuple #[.int .u8 g, .int .u32 mc]) ∧ Below W.heap.size W w') := HM
  clear HM
  go_enter Tryd.func7, Tryd.ntmps7
  go_wp2_with fail
  refine (HMM.out _ (by repeat (first | exact Below.refl _ _ | apply Below.drew | apply Below.al))).mono ?_
  rintro e w1 ⟨g, rfl, hb⟩
  have B1 : Hid (Below w.heap.size w w1) := Below.andThen (by repeat (first | exact Below.refl _ _ | apply Below.drew | apply Below.al)) hb
  clear hb
  go_wp2_with fail
  go_ret
  exact ⟨rfl, B1.out⟩
#print axioms may_dic
#print axioms write_no
end Go.Proofs.YtcdmldnaagiicaaDoor
namespace Go.Proofs.YtcdmldnaagiicaaDoor
open Go.RowKit

theorem lookP_put : ∀ (lst : Mp) (i s : Int) (v : Value) (j r : Int), lookP (putP lst i s v) j r = if (j == i && r == s) = true then some v else lookP lst j r
  | [], i, s, v, j, r => by simp only [putP, lookP]
  | x :: l, i, s, v, j, r => by
    simp only [putP]
    split
    · rename_i h
      obtain ⟨h1, h2⟩ : i = x.1 ∧ s = x.2.1 := by simpa using h
      simp only [lookP]
      rw [h1, h2]
      by_cases hc : (j == x.1 && r == x.2.1) = true
      · rw [if_pos hc, if_pos hc]
      · rw [if_neg hc, if_neg hc, if_neg hc]
    · rename_i h
      simp only [lookP]
      rw [lookP_put l i s v j r]
      by_cases hc : (j == x.1 && r == x.2.1) = true
      · have hn : ¬ (j == i && r == s) = true := fun h2 => by
          obtain ⟨a1, a2⟩ : j = x.1 ∧ r = x.2.1 := by simpa using hc
          obtain ⟨b1, b2⟩ : j = i ∧ r = s := by simpa using h2
          exact h (by rw [← b1, ← b2]; exact hc)
        rw [if_pos hc, if_neg hn, if_pos hc]
      · rw [if_neg hc, if_neg hc]
theorem SlOk.kpD {w w' : World} {a : Option Addr} {len cap : Nat} {zs : List Int} (h : SlOk w a len cap zs) {p m : Nat} {cg : Int} {lst : Mp} (hp : w.heap[p]? = some (.cells #[.map (some m), .int .i64 cg] 58 (0, 0))) (hm : IsM w m lst) (hk : Kp [p, m] w w') : SlOk w' a len cap zs := ⟨⟨h.row.size, h.row.oct, fun hpos => by
  obtain ⟨b, off, e, hc⟩ := h.row.at_ hpos
  refine ⟨b, off, e, fun i hi => ?_⟩
  have c := hc i hi
  have hne : b ∉ [p, m] := fun hmem => by
    simp at hmem
    rcases hmem with rfl | rfl
    · rw [cell_of_row _ _ _ _ _ _ hp] at c
      rcases (by omega : off + i = 0 ∨ off + i = 1 ∨ 2 ≤ off + i) with q | q | q
      · rw [q] at c; simp at c
      · rw [q] at c; simp at c
      · rw [Array.getElem?_eq_none (by simpa using q)] at c
        cases c
    · obtain ⟨es, ck, hmm, _⟩ := hm
      simp [World.cell?, hmm] at c
  rw [World.cell?_of_block (w := w) (hk.block b (block_lt_of_cell c) hne)]
  exact c⟩, h.le, h.max⟩
/-- Items with another value at a place. -/
def putI (I : Int → Int → Option It) (i s : Int) (zb : List Int) : Int → Int → Option It := fun j r => if (j == i && r == s) = true then (I i s).map (fun x => { x with zv := zb }) else I j r
/-- Write of any place. -/
theorem write_dic (p m : Nat) (cg : Int) (lst : Mp) (I : Int → Int → Option It) (i s : Int) (b : Option Addr) (lb cb : Nat) (zb : List Int) (w : World) (hp : w.heap[p]? = some (.cells #[.map (some m), .int .i64 cg] 58 (0, 0))) (hm : IsM w m lst) (hI : ItD w lst I) (rb : SlOk w b lb cb zb) (hT : Ty.Tab64 w) (hlb : lb ≤ 16777216) (hc0 : 0 ≤ cg) (hc1 : cg < 4611686018427387904) (hne : p ≠ m) :
    Calls Tryd.prog 7 #[.pointer (some ⟨p, 0, none⟩), plV i s, .slice b lb cb] w fun e w' => e = .returned (.int .u32 (mayK lst I i s zb)) ∧ ((mayK lst I i s zb ≠ 0 ∧ Below w.heap.size w w') ∨ (mayK lst I i s zb = 0 ∧ ∃ lst', w'.heap[p]? = some (.cells #[.map (some m), .int .i64 (cg + 1)] 58 (0, 0)) ∧ IsM w' m lst' ∧ ItD w' lst' (putI I i s zb) ∧ Kp [p, m] w w')) := by
  by_cases hz : mayK lst I i s zb = 0
  · rcases hI i s with ⟨h1, h2⟩ | ⟨x, hx, nm, d, ld, cd, l, ll, cl, h, lh, ch, gr, v, lv, cv, zd, e, r1, r2, r3, r4, g1, g2, g3, g4, g5⟩
    · exact absurd (show missC lst i = 0 by rw [← hz]; unfold mayK; rw [h2]) (miss_ne _ _)
    · cases hr : (bits .and .u8 x.rt 2 != 0) with
      | false => exact absurd (show (100728834 : Int) = 0 by rw [← hz]; unfold mayK; rw [hx]; simp only; rw [hr]; rfl) (by decide)
      | true =>
        have hc : Ty.chkN x.t zb x.zl x.zh = 0 := by rw [← hz]; unfold mayK; rw [hx]; simp only; rw [hr]; rfl
        refine (write_at p m cg lst i s nm x.t x.rt d ld cd l ll cl h lh ch x.tg gr v lv cv b lb cb zb x.zl x.zh w hp hm e rb r2 r3 hT hr hc hlb hc0 hc1 hne).mono ?_
        rintro e' w' ⟨he, a', c', k1, k2, k3, k4⟩
        refine ⟨by rw [hz]; exact he, .inr ⟨hz, _, k2, k3, fun j r => ?_, k1⟩⟩
        rw [lookP_put]
        unfold putI
        by_cases hj : (j == i && r == s) = true
        · obtain ⟨q1, q2⟩ : j = i ∧ r = s := by simpa using hj
          rw [if_pos hj, if_pos hj, hx, q1, q2]
          exact .inr ⟨{ x with zv := zb }, rfl, nm, d, ld, cd, l, ll, cl, h, lh, ch, gr, a', lb, c', zd, rfl, r1.kpD hp hm k1, r2.kpD hp hm k1, r3.kpD hp hm k1, k4.sl, g1, g2, g3, hlb, fun hs => by rw [← chkN_size hc hs, rb.row.size]⟩
        · rw [if_neg hj, if_neg hj]
          rcases hI j r with h | ⟨x, hx, nm, d, ld, cd, l, ll, cl, h, lh, ch, gr, v, lv, cv, zd, e, r1, r2, r3, r4, g⟩
          · exact .inl h
          · exact .inr ⟨x, hx, nm, d, ld, cd, l, ll, cl, h, lh, ch, gr, v, lv, cv, zd, e, r1.kpD hp hm k1, r2.kpD hp hm k1, r3.kpD hp hm k1, r4.kpD hp hm k1, g⟩
  · exact (write_no _ i s b lb cb _ hz w fun W hb => may_dic p m cg lst I i s b lb cb zb W (blk11 hb hp) (hm.next hb) (hI.next hb) (rb.next hb) (tab_next hT hb)).mono fun e w' ⟨h1, h2⟩ => ⟨h1, .inl ⟨hz, h2⟩⟩
/-- Of a Map that is no gap, whether it may be: by the items. -/
def cfI (I : Int → Int → Option It) (out : Bool) (x : Mz) : Bool := gapB x.i x.s x.b && !out || !gapB x.i x.s x.b && match I x.i x.s with
  | none => false
  | some y => ((bits .and .u8 y.rt 4 != 0) && hasB y.t x.b) && !(bits .and .u8 y.rt (rgt out) == 0)
theorem cfD_cfI {W : World} {lst : Mp} {I : Int → Int → Option It} (h : ItD W lst I) (out : Bool) (x : Mz) : cfD lst out x = 0 ↔ cfI I out x = true := by
  unfold cfD cfI
  cases hg : gapB x.i x.s x.b with
  | true => cases out <;> simp
  | false =>
    rcases h x.i x.s with ⟨h1, h2⟩ | ⟨y, hy, nm, d, ld, cd, l, ll, cl, h, lh, ch, gr, v, lv, cv, zd, e, r⟩
    · rw [h1, h2]
      simp [miss_ne]
    · rw [e, hy]
      simp only [itR, itT, itC]
      simp [and_assoc]
theorem cfI_put (I : Int → Int → Option It) (i s : Int) (zb : List Int) (out : Bool) (x : Mz) : cfI (putI I i s zb) out x = cfI I out x := by
  unfold cfI putI
  by_cases hj : (x.i == i && x.s == s) = true
  · obtain ⟨q1, q2⟩ : x.i = i ∧ x.s = s := by simpa using hj
    rw [if_pos hj, q1, q2]
    cases I i s <;> rfl
  · rw [if_neg hj]
#print axioms write_dic
#print axioms cfD_cfI
#print axioms cfI_put
end Go.Proofs.YtcdmldnaagiicaaDoor
namespace Go.Proofs.YtcdmldnaagiicaaDoor
open Go.RowKit

/-- The items of a dictionary that was made of entries. -/
def itE : List Em → Int → Int → Option It
  | [], _, _ => none
  | e :: r, i, s => if (i == e.i && s == e.s) = true then some ⟨e.t, e.rt, e.tg, e.zl, e.zh, firstL e.t e.zd⟩ else itE r i s
theorem itE_rel (Q : Em → Value → Prop) : ∀ (es : List Em) (lst : Mp) (i s : Int), lst.length = es.length → (∀ (k : Nat) (e : Em), es[k]? = some e → ∃ v, lst[k]? = some (e.i, e.s, v) ∧ Q e v) → (lookP lst i s = none ∧ itE es i s = none) ∨ ∃ e ∈ es, e.i = i ∧ e.s = s ∧ itE es i s = some ⟨e.t, e.rt, e.tg, e.zl, e.zh, firstL e.t e.zd⟩ ∧ ∃ u, lookP lst i s = some u ∧ Q e u
  | [], lst, i, s, hl, _ => by
    have : lst = [] := List.eq_nil_of_length_eq_zero hl
    subst this
    exact .inl ⟨rfl, rfl⟩
  | e :: es, [], i, s, hl, _ => by simp at hl
  | e :: es, x :: lst, i, s, hl, hr => by
    obtain ⟨v, hx, hq⟩ := hr 0 e rfl
    simp at hx
    subst hx
    by_cases hc : (i == e.i && s == e.s) = true
    · obtain ⟨h1, h2⟩ : i = e.i ∧ s = e.s := by simpa using hc
      refine .inr ⟨e, List.mem_cons_self, h1.symm, h2.symm, by simp only [itE]; rw [if_pos hc], v, by simp only [lookP]; rw [if_pos hc], hq⟩
    · rcases itE_rel Q es lst i s (by simpa using hl) (fun k e' he' => hr (k + 1) e' he') with ⟨h1, h2⟩ | ⟨e', he, h1, h2, h3, u, h4, h5⟩
      · exact .inl ⟨by simp only [lookP]; rw [if_neg hc]; exact h1, by simp only [itE]; rw [if_neg hc]; exact h2⟩
      · exact .inr ⟨e', List.mem_cons_of_mem _ he, h1, h2, by simp only [itE]; rw [if_neg hc]; exact h3, u, by simp only [lookP]; rw [if_neg hc]; exact h4, h5⟩
/-- What New made, place by place. -/
theorem built_dic {w W : World} {lo : Nat} {es : List Em} {lst : Mp} (h : Built W lo es lst) (hc : newC es = 0) (hin : ∀ e ∈ es, EmIn w e) : ItD W lst (itE es) := fun i s => by
  rcases itE_rel (fun e u => ∃ a1 c1 a2 c2 a3 c3 v lv cv, u = .agg (itC e.i e.s e.nm e.t e.rt a1 e.ld c1 a2 e.ll c2 a3 e.lh c3 e.tg e.gr v lv cv) ∧ Kept W lo a1 e.ld c1 e.zd ∧ Kept W lo a2 e.ll c2 e.zl ∧ Kept W lo a3 e.lh c3 e.zh ∧ Kept W lo v lv cv (firstL e.t e.zd)) es lst i s h.1 (fun k e he => by
      obtain ⟨a1, c1, a2, c2, a3, c3, v, lv, cv, g, k1, k2, k3, k4⟩ := h.2 k e he
      exact ⟨_, g, a1, c1, a2, c2, a3, c3, v, lv, cv, rfl, k1, k2, k3, k4⟩) with h0 | ⟨e, he, rfl, rfl, h3, u, h4, a1, c1, a2, c2, a3, c3, v, lv, cv, rfl, k1, k2, k3, k4⟩
  · exact .inl h0
  · obtain ⟨rd, rl, rh, b1, b2, b3⟩ := hin e he
    have hm := (mayB_yes ((newC_zero hc).2 e he)).2.2.2.2.2.2
    have hz : e.zd.length ≤ 16777216 := by rw [rd.row.size]; exact b1
    refine .inr ⟨_, h3, e.nm, a1, e.ld, c1, a2, e.ll, c2, a3, e.lh, c3, e.gr, v, lv, cv, e.zd, h4, k1.1, k2.1, k3.1, k4.1, b1, b2, b3, NF k4.1 hz, fun hs => ?_⟩
    show (lv : Int) = Ty.Pl.sizeN e.t
    rw [← chkN_size hm hs, ← k4.1.row.size]
theorem itE_mem : ∀ (es : List Em) (i s : Int) (x : It), itE es i s = some x → ∃ e ∈ es, x = ⟨e.t, e.rt, e.tg, e.zl, e.zh, firstL e.t e.zd⟩
  | [], _, _, _, h => by cases h
  | e :: es, i, s, x, h => by
    simp only [itE] at h
    split at h
    · cases h
      exact ⟨e, List.mem_cons_self, rfl⟩
    · obtain ⟨e', he, hx⟩ := itE_mem es i s x h
      exact ⟨e', List.mem_cons_of_mem _ he, hx⟩
/-- A value at first is one that may be. -/
theorem itE_may {es : List Em} (hc : newC es = 0) {i s : Int} {x : It} (h : itE es i s = some x) : Ty.chkN x.t x.zv x.zl x.zh = 0 := by
  obtain ⟨e, he, rfl⟩ := itE_mem es i s x h
  exact (mayB_yes ((newC_zero hc).2 e he)).2.2.2.2.2.2
/-- The same but for the values. -/
def SameI (I J : Int → Int → Option It) : Prop := ∀ i s, (I i s = none ∧ J i s = none) ∨ ∃ x y, I i s = some x ∧ J i s = some y ∧ y.t = x.t ∧ y.rt = x.rt ∧ y.zl = x.zl ∧ y.zh = x.zh
theorem SameI.refl (I : Int → Int → Option It) : SameI I I := fun i s => by
  cases h : I i s with
  | none => exact .inl ⟨rfl, rfl⟩
  | some x => exact .inr ⟨x, x, rfl, rfl, rfl, rfl, rfl, rfl⟩
theorem SameI.put {I J : Int → Int → Option It} (h : SameI I J) (i s : Int) (zb : List Int) : SameI I (putI J i s zb) := fun j r => by
  unfold putI
  by_cases hj : (j == i && r == s) = true
  · obtain ⟨q1, q2⟩ : j = i ∧ r = s := by simpa using hj
    rw [if_pos hj, q1, q2]
    rcases h i s with ⟨h1, h2⟩ | ⟨x, y, h1, h2, h3⟩
    · exact .inl ⟨h1, by rw [h2]; rfl⟩
    · exact .inr ⟨x, { y with zv := zb }, h1, by rw [h2]; rfl, h3⟩
  · rw [if_neg hj]
    exact h j r
theorem SameI.cf {I J : Int → Int → Option It} (h : SameI I J) (out : Bool) (x : Mz) : cfI J out x = cfI I out x := by
  unfold cfI
  rcases h x.i x.s with ⟨h1, h2⟩ | ⟨a, b, h1, h2, h3, h4, _⟩
  · rw [h1, h2]
  · rw [h1, h2]
    simp only
    rw [h3, h4]
theorem chkZ_same (cf cf' : Mz → Int) : ∀ (ms : List Mz) (n : Int), (∀ x, cf x = 0 → cf' x = 0) → chkZ cf ms n = 0 → chkZ cf' ms n = 0
  | [], _, _, _ => rfl
  | x :: l, n, hc, h => by
    simp only [chkZ] at h ⊢
    split at h
    · rename_i h1; exact absurd h h1
    · rename_i h1
      split at h
      · exact absurd h (by decide)
      · rename_i h2
        rw [if_neg (by simp only [ne_eq, Decidable.not_not] at h1 ⊢; exact hc x h1), if_neg h2]
        exact chkZ_same cf cf' l _ hc h
theorem chkC_same {W W' : World} {lst lst' : Mp} {I J : Int → Int → Option It} (h : ItD W lst I) (h' : ItD W' lst' J) (hs : SameI I J) {out : Bool} {ms : List Mz} (hc : chkC lst out ms = 0) : chkC lst' out ms = 0 := by
  unfold chkC at hc ⊢
  split at hc
  · exact absurd hc (by decide)
  · rename_i h1
    rw [if_neg h1]
    exact chkZ_same _ _ ms 0 (fun x hx => (cfD_cfI h' out x).2 (by rw [hs.cf]; exact (cfD_cfI h out x).1 hx)) hc
/-- A dictionary beside another one that is written to. -/
theorem ItD.kpD {w w' : World} {lst : Mp} {I : Int → Int → Option It} (h : ItD w lst I) {p m : Nat} {cg : Int} {l2 : Mp} (hp : w.heap[p]? = some (.cells #[.map (some m), .int .i64 cg] 58 (0, 0))) (hm : IsM w m l2) (hk : Kp [p, m] w w') : ItD w' lst I := fun j r => by
  rcases h j r with h | ⟨x, hx, nm, d, ld, cd, l, ll, cl, h, lh, ch, gr, v, lv, cv, zd, e, r1, r2, r3, r4, g⟩
  · exact .inl h
  · exact .inr ⟨x, hx, nm, d, ld, cd, l, ll, cl, h, lh, ch, gr, v, lv, cv, zd, e, r1.kpD hp hm hk, r2.kpD hp hm hk, r3.kpD hp hm hk, r4.kpD hp hm hk, g⟩
theorem tab_kpD {w w' : World} (h : Ty.Tab64 w) {p m : Nat} {cg : Int} {lst : Mp} (hp : w.heap[p]? = some (.cells #[.map (some m), .int .i64 cg] 58 (0, 0))) (hm : IsM w m lst) (hk : Kp [p, m] w w') : Ty.Tab64 w' := fun j hj => by
  have c := h j hj
  have c0 := h 0 (by decide)
  have hne : 1 ∉ [p, m] := fun hmem => by
    simp at hmem
    rcases hmem with rfl | rfl
    · rw [cell_of_row _ _ _ _ _ _ hp] at c0
      simp at c0
    · obtain ⟨es, ck, hmm, _⟩ := hm
      simp [World.cell?, hmm] at c0
  rw [World.cell?_of_block (w := w) (hk.block _ (block_lt_of_cell c) hne)]
  exact c
/-- May a value be written at a place? -/
def mayI (I : Int → Int → Option It) (i s : Int) (zb : List Int) : Prop := ∃ x, I i s = some x ∧ (bits .and .u8 x.rt 2 != 0) = true ∧ Ty.chkN x.t zb x.zl x.zh = 0
theorem mayI.k {I : Int → Int → Option It} {i s : Int} {zb : List Int} (h : mayI I i s zb) (lst : Mp) : mayK lst I i s zb = 0 := by
  obtain ⟨x, h1, h2, h3⟩ := h
  unfold mayK
  rw [h1]
  simp only
  rw [if_pos h2, h3]
theorem mayK_I {I : Int → Int → Option It} {i s : Int} {zb : List Int} {lst : Mp} (h : mayK lst I i s zb = 0) : mayI I i s zb := by
  unfold mayK at h
  cases hx : I i s with
  | none => rw [hx] at h; exact absurd h (miss_ne _ _)
  | some x =>
    rw [hx] at h
    simp only at h
    split at h
    · rename_i h2; exact ⟨x, hx, h2, h⟩
    · exact absurd h (by decide)
theorem SameI.may {I J : Int → Int → Option It} (h : SameI I J) {i s : Int} {zb : List Int} (hm : mayI I i s zb) : mayI J i s zb := by
  obtain ⟨x, h1, h2, h3⟩ := hm
  rcases h i s with ⟨h4, _⟩ | ⟨a, b, h4, h5, h6, h7, h8, h9⟩
  · rw [h1] at h4; cases h4
  · rw [h1] at h4
    cases h4
    exact ⟨b, h5, by rw [h7]; exact h2, by rw [h6, h8, h9]; exact h3⟩
/-- May's code of a Map's place. -/
def mcI (lst : Mp) (I : Int → Int → Option It) : Mq → List Int → Int := fun x zb => mayK lst I x.i x.s zb
theorem mayC_I (p m : Nat) (cg : Int) (lst : Mp) (I : Int → Int → Option It) (w : World) (hp : w.heap[p]? = some (.cells #[.map (some m), .int .i64 cg] 58 (0, 0))) (hm : IsM w m lst) (hI : ItD w lst I) (hT : Ty.Tab64 w) : MayC p lst w (mcI lst I) := fun x h1 h2 W hW zb g hn hO hh => by
  have hb := cfD_bd h1
  have h64 : (x.q.b + 7) / 8 ≤ 8 := by show (x.b.toNat + 7) / 8 ≤ 8; omega
  exact may_dic p m cg lst I x.i x.s (some ⟨g, 0, none⟩) _ _ zb W (blk11 hW hp) (hm.next hW) (hI.next hW) ⟨row_own hn hO hh, Nat.le_refl _, by unfold maxLen; omega⟩ (tab_next hT hW)
/-- Values put at their places, one behind the other. -/
def putA (I : Int → Int → Option It) (l : List (Int × Int × List Int)) : Int → Int → Option It := l.foldl (fun J r => putI J r.1 r.2.1 r.2.2) I
theorem putA_app (I : Int → Int → Option It) (l : List (Int × Int × List Int)) (r : Int × Int × List Int) : putA I (l ++ [r]) = putI (putA I l) r.1 r.2.1 r.2.2 := by
  unfold putA
  rw [List.foldl_append]
  rfl
theorem SameI.puts {I J : Int → Int → Option It} (h : SameI I J) : ∀ (l : List (Int × Int × List Int)), SameI I (putA J l) := fun l => by
  unfold putA
  induction l generalizing J with
  | nil => exact h
  | cons r l ih => exact ih (h.put _ _ _)
/-- What stands at a place behind them. -/
theorem putA_val (I : Int → Int → Option It) (i s : Int) (v : List Int) (hs : I i s ≠ none) : ∀ (l : List (Int × Int × List Int)) (J : Int → Int → Option It), SameI I J → (∀ r ∈ l, r.1 = i → r.2.1 = s → r.2.2 = v) → (valI J i s = v ∨ ∃ r ∈ l, r.1 = i ∧ r.2.1 = s) → valI (putA J l) i s = v
  | [], J, _, _, h => by
    rcases h with h | ⟨r, hr, _⟩
    · exact h
    · cases hr
  | r :: l, J, hJ, hv, h => by
    show valI (putA (putI J r.1 r.2.1 r.2.2) l) i s = v
    refine putA_val I i s v hs l _ (hJ.put _ _ _) (fun x hx => hv x (List.mem_cons_of_mem _ hx)) ?_
    by_cases hc : (i == r.1 && s == r.2.1) = true
    · obtain ⟨q1, q2⟩ : i = r.1 ∧ s = r.2.1 := by simpa using hc
      refine .inl ?_
      unfold valI putI
      rw [if_pos hc, ← q1, ← q2]
      rcases hJ i s with ⟨h1, _⟩ | ⟨x, y, _, h2, _⟩
      · exact absurd h1 hs
      · rw [h2]
        exact hv r List.mem_cons_self q1.symm q2.symm
    · rcases h with h | ⟨x, hx, h1, h2⟩
      · refine .inl ?_
        unfold valI putI
        rw [if_neg hc]
        exact h
      · rcases List.mem_cons.1 hx with rfl | hx
        · exact absurd (by rw [h1, h2]; simp) hc
        · exact .inr ⟨x, hx, h1, h2⟩
#print axioms built_dic
#print axioms chkC_same
#print axioms mayC_I
#print axioms putA_val
end Go.Proofs.YtcdmldnaagiicaaDoor
namespace Go.Proofs.YtcdmldnaagiicaaDoor
open Go.RowKit

theorem tb_ext {xs ys : List Int} (hx : Oct xs) (hy : Oct ys) (hl : xs.length = ys.length) (h : ∀ k, tb xs k = tb ys k) : xs = ys := by
  apply List.ext_getElem hl
  intro n h1 h2
  have e1 : xs.getD n 0 = xs[n] := by simp [List.getD_eq_getElem?_getD, h1]
  have e2 : ys.getD n 0 = ys[n] := by simp [List.getD_eq_getElem?_getD, h2]
  have o1 := hx xs[n] (List.getElem_mem _)
  have o2 := hy ys[n] (List.getElem_mem _)
  have hb : ∀ j, j < 8 → xs[n].toNat.testBit j = ys[n].toNat.testBit j := fun j hj => by
    have := h (8 * n + j)
    unfold tb at this
    rw [show (8 * n + j) / 8 = n by omega, show (8 * n + j) % 8 = j by omega, e1, e2] at this
    exact this
  have : xs[n].toNat = ys[n].toNat := by
    apply Nat.eq_of_testBit_eq
    intro j
    by_cases hj : j < 8
    · exact hb j hj
    · have h8 : 2 ^ 8 ≤ 2 ^ j := Nat.pow_le_pow_right (by decide) (by omega)
      rw [Nat.testBit_lt_two_pow (by omega), Nat.testBit_lt_two_pow (by omega)]
  omega
theorem tb_end {zs : List Int} {k : Nat} (h : 8 * zs.length ≤ k) : tb zs k = false := by
  unfold tb
  rw [List.getD_eq_getElem?_getD, List.getElem?_eq_none (by omega)]
  simp
/-- What is taken of what was packed is the value. -/
theorem tk_pk (ms : List Mq) (val : Int → Int → List Int) (hv : ∀ x ∈ ms, Oct (val x.i x.s)) (R : Nat) (hR : sumB ms ms.length ≤ 8 * R) (i : Nat) (x : Mq) (hx : ms[i]? = some x) (hl : (val x.i x.s).length = (x.b + 7) / 8) (he : ∀ k, x.b ≤ k → tb (val x.i x.s) k = false) : tkB (pk ms val R ms.length) (sumB ms i) x.b = val x.i x.s := by
  have hi : i < ms.length := (List.getElem?_eq_some_iff.1 hx).1
  obtain ⟨p1, p2, p3⟩ := pk_tb ms val hv R hR ms.length (Nat.le_refl _)
  obtain ⟨g1, g2⟩ := layB_tb (pk ms val R ms.length) p1 (sumB ms i) x.b 0 (List.replicate ((x.b + 7) / 8) 0) (fun y hy => by have := (List.mem_replicate.1 hy).2; subst this; decide) (by simp; omega)
  refine tb_ext g1 (hv x (List.mem_of_getElem? hx)) (by rw [show (tkB _ _ _).length = _ from tkB_len _ _ _, hl]) (fun k => ?_)
  show tb (layB _ _ _ _ _) k = _
  rw [g2, tb_zero, Bool.false_or]
  by_cases hk : k < x.b
  · rw [show decide (0 ≤ k ∧ k < 0 + x.b) = true by rw [decide_eq_true_iff]; omega, Bool.true_and]
    have hs := sumB_succ hx
    rw [p3 i x (sumB ms i + (k - 0)) hi hx (by omega) (by omega)]
    congr 1
    omega
  · rw [show decide (0 ≤ k ∧ k < 0 + x.b) = false by rw [decide_eq_false_iff_not]; omega, Bool.false_and, he k (by omega)]
/-- The code, and the values, of what was packed. -/
theorem un_pk (mc : Mq → List Int → Int) (P : List Int) (ms : List Mq) (val : Int → Int → List Int) (hg : ∀ x ∈ ms, gpB x = false) (ht : ∀ i x, ms[i]? = some x → tkB P (sumB ms i) x.b = val x.i x.s) (hm : ∀ x ∈ ms, mc x (val x.i x.s) = 0) : ∀ (l : List Mq) (k : Nat), ms.drop k = l → unC mc P l (sumB ms k) = 0 ∧ unV P l (sumB ms k) = l.map fun x => (x.i, x.s, val x.i x.s)
  | [], k, _ => ⟨rfl, rfl⟩
  | x :: l, k, h => by
    have hk : k < ms.length := by
      rcases Nat.lt_or_ge k ms.length with h' | h'
      · exact h'
      · rw [List.drop_of_length_le h'] at h; cases h
    have hd := List.drop_eq_getElem_cons hk
    rw [h] at hd
    injection hd with h1 h2
    have hx : ms[k]? = some x := by rw [List.getElem?_eq_getElem hk, h1]
    have hmem := List.mem_of_getElem? hx
    obtain ⟨a, b⟩ := un_pk mc P ms val hg ht hm l (k + 1) h2.symm
    rw [sumB_succ hx] at a b
    simp only [unC, unV, List.map_cons]
    rw [hg x hmem, ht k x hx, hm x hmem]
    simp only [Bool.false_eq_true, if_false, ne_eq, not_true_eq_false]
    exact ⟨a, by rw [b]⟩
/-- A value that is one fills its bits. -/
theorem val_bits {t b : Int} {z lo hi : List Int} (hc : Ty.chkN t z lo hi = 0) (hb : hasB t b = true) : z.length = (b.toNat + 7) / 8 ∧ (Oct z → ∀ k, b.toNat ≤ k → tb z k = false) := by
  have hs := Ty.Pl.size_bd t
  have h3 : 0 < Ty.Pl.sizeN t ∧ (b = 8 * Ty.Pl.sizeN t ∨ t = 1 ∧ b = 1) := by
    simp only [hasB, Bool.and_eq_true, Bool.or_eq_true, decide_eq_true_eq, beq_iff_eq] at hb
    exact hb
  have hl := chkN_size hc h3.1
  have h6 : t = 1 → Ty.Pl.sizeN t = 1 := fun e => by subst e; rfl
  refine ⟨?_, fun ho k hk => ?_⟩
  · rcases h3.2 with h | ⟨h, h'⟩
    · omega
    · have := h6 h; omega
  · rcases h3.2 with h | ⟨h, h'⟩
    · exact tb_end (by omega)
    · have h7 := h6 h
      subst h
      have hcb : Ty.Pl.cbN 1 z = 0 := by
        unfold Ty.chkN at hc
        split at hc
        · exact hc
        · rename_i hq; simpa using hq
      have h1 : z.getD 0 0 ≤ 1 := by
        unfold Ty.Pl.cbN at hcb
        have k1 : Ty.Pl.kindN 1 = 1 := by decide
        rw [k1] at hcb
        by_cases hq : 1 < z.getD 0 0
        · exfalso
          repeat' (split at hcb)
          all_goals first | (revert hcb; decide) | omega
        · omega
      have h0 := ho.getD 0
      rcases Nat.lt_or_ge k 8 with hk8 | hk8
      · unfold tb
        rw [show k / 8 = 0 by omega, show k % 8 = k by omega]
        have h2 : 2 ^ 1 ≤ 2 ^ k := Nat.pow_le_pow_right (by decide) (by omega)
        exact Nat.testBit_lt_two_pow (by omega)
      · exact tb_end (by omega)
#print axioms tk_pk
#print axioms un_pk
#print axioms val_bits
end Go.Proofs.YtcdmldnaagiicaaDoor
namespace Go.Proofs.YtcdmldnaagiicaaDoor
open Go.RowKit

/-- What is unpacked without a fault may be written. -/
theorem unC_rows (mc : Mq → List Int → Int) (zs : List Int) (hz : Oct zs) : ∀ (l : List Mq) (n : Nat), unC mc zs l n = 0 → ∀ r ∈ unV zs l n, Oct r.2.2 ∧ ∃ x ∈ l, r.1 = x.i ∧ r.2.1 = x.s ∧ mc x r.2.2 = 0 ∧ r.2.2.length = (x.b + 7) / 8
  | [], _, _, r, hr => by simp [unV] at hr
  | x :: l, n, h, r, hr => by
    simp only [unC] at h
    simp only [unV] at hr
    by_cases hg : gpB x = true
    · rw [if_pos hg] at h hr
      obtain ⟨ho, y, hy, q⟩ := unC_rows mc zs hz l _ h r hr
      exact ⟨ho, y, List.mem_cons_of_mem _ hy, q⟩
    · rw [if_neg hg] at h hr
      split at h
      · rename_i h1; exact absurd h h1
      · rename_i h1
        rcases List.mem_cons.1 hr with rfl | hr
        · exact ⟨tkB_oct hz _ _, x, List.mem_cons_self, rfl, rfl, by simpa using h1, tkB_len _ _ _⟩
        · obtain ⟨ho, y, hy, q⟩ := unC_rows mc zs hz l _ h r hr
          exact ⟨ho, y, List.mem_cons_of_mem _ hy, q⟩
theorem unV_le (zs : List Int) : ∀ (l : List Mq) (k : Nat), (unV zs l k).length ≤ l.length
  | [], _ => Nat.le_refl _
  | x :: l, k => by
    simp only [unV]
    have := unV_le zs l (k + x.b)
    split <;> simp <;> omega
/-- A dictionary as it stands, with what has been written to it. -/
def DicA (wr : World) (p m : Nat) (cg : Int) (I : Int → Int → Option It) : Prop := ∃ lst, wr.heap[p]? = some (.cells #[.map (some m), .int .i64 cg] 58 (0, 0)) ∧ IsM wr m lst ∧ ItD wr lst I ∧ Ty.Tab64 wr
theorem DicA.next {w w' : World} {p m : Nat} {cg : Int} {I : Int → Int → Option It} (h : DicA w p m cg I) (hb : Below w.heap.size w w') : DicA w' p m cg I := by
  obtain ⟨lst, h1, h2, h3, h4⟩ := h
  exact ⟨lst, blk11 hb h1, h2.next hb, h3.next hb, tab_next h4 hb⟩
theorem DicA.lt {w : World} {p m : Nat} {cg : Int} {I : Int → Int → Option It} (h : DicA w p m cg I) : p < w.heap.size ∧ m < w.heap.size := by
  obtain ⟨lst, h1, h2, h3, _⟩ := h
  exact ⟨lt_of_heap h1, h2.lt⟩
theorem DicA.write {w : World} {p m : Nat} {cg : Int} {I : Int → Int → Option It} (h : DicA w p m cg I) (i s : Int) (b : Option Addr) (lb cb : Nat) (zb : List Int) (rb : SlOk w b lb cb zb) (hlb : lb ≤ 16777216) (hc0 : 0 ≤ cg) (hc1 : cg < 4611686018427387904) (hne : p ≠ m) (hmay : mayI I i s zb) :
    Calls Tryd.prog 7 #[.pointer (some ⟨p, 0, none⟩), plV i s, .slice b lb cb] w fun e w' => e = .returned (.int .u32 0) ∧ DicA w' p m (cg + 1) (putI I i s zb) ∧ Kp [p, m] w w' := by
  obtain ⟨lst, h1, h2, h3, hT⟩ := h
  have hk := hmay.k lst
  refine (write_dic p m cg lst I i s b lb cb zb w h1 h2 h3 rb hT hlb hc0 hc1 hne).mono ?_
  rintro e w' ⟨he, ⟨hn, _⟩ | ⟨_, lst', k1, k2, k3, k4⟩⟩
  · exact absurd hk hn
  · exact ⟨by rw [← hk]; exact he, ⟨lst', k1, k2, k3, tab_kpD hT h1 h2 k4⟩, k4⟩
set_option linter.unusedSimpArgs false in
set_option maxHeartbeats 4000000 in
set_option maxRecDepth 100000 in
theorem wr_any (p m : Nat) (cg : Int) (lst : Mp) (I : Int → Int → Option It) (ad : Option Addr) (g off cap : Nat) (ms : List Mz) (had : 0 < ms.length → ad = some ⟨g, off, none⟩) (w : World) (hp : w.heap[p]? = some (.cells #[.map (some m), .int .i64 cg] 58 (0, 0))) (hm : IsM w m lst) (hI : ItD w lst I) (hM : MzAt w g off ms) (hi : ∀ x ∈ ms, 0 ≤ x.i ∧ x.i < 65536) (hc : chkC lst false ms = 0) (a : Option Addr) (len capb : Nat) (zs : List Int) (hr : Row w a len zs) (hlen : len ≤ 1000) (hT : Ty.Tab64 w) (hc0 : 0 ≤ cg) (hc1 : cg < 1000000) (hne : p ≠ m)
    (hz : unR (mcI lst I) zs (ms.map Mz.q) = 0) :
    Calls Tryd.prog 11 #[.pointer (some ⟨p, 0, none⟩), .slice ad ms.length cap, .slice a len capb] w fun e w' => e = .returned (.int .u32 0) ∧ (∃ cg', DicA w' p m cg' (putA I (unV zs (ms.map Mz.q) 0))) ∧ Kp [p, m] w w' := by
  have HU : Hid (Calls Tryd.prog 26 #[.pointer (some ⟨p, 0, none⟩), .slice ad ms.length cap, .slice a len capb] w fun e w' => UPost w (unR (mcI lst I) zs (ms.map Mz.q)) (unV zs (ms.map Mz.q) 0) e w') := unpack_any p m cg lst (valI I) ad g off cap ms had w hp hm hI.ok hM hi hc a len capb zs hr hlen (mcI lst I) (mayC_I p m cg lst I w hp hm hI hT)
  obtain ⟨h64, _, hb0, _⟩ := chkC_zeroB hc
  obtain ⟨RW, hRW⟩ : ∃ RW, Hid (RW = unV zs (ms.map Mz.q) 0) := ⟨_, rfl⟩
  obtain ⟨N, hN⟩ : ∃ N, Hid (N = RW.length) := ⟨_, rfl⟩
  have hN64 : N ≤ 64 := by
    have := unV_le zs (ms.map Mz.q) 0
    rw [← hRW.out, List.length_map] at this
    rw [hN.out]
    omega
  have HZ : unC (mcI lst I) zs (ms.map Mz.q) 0 = 0 := by
    unfold unR at hz
    split at hz
    · exact absurd hz (by decide)
    · exact hz
  have RM : Hid (∀ r ∈ RW, Oct r.2.2 ∧ r.2.2.length ≤ 8 ∧ mayI I r.1 r.2.1 r.2.2) := fun r hr9 => by
    rw [hRW.out] at hr9
    obtain ⟨ho, x, hx, h1, h2, h3, h4⟩ := unC_rows (mcI lst I) zs hr.oct _ _ HZ r hr9
    obtain ⟨y, hy, rfl⟩ := List.mem_map.1 hx
    have hb := cfD_bd ((chkC_zeroB hc).2.1 y hy)
    refine ⟨ho, ?_, ?_⟩
    · have : r.2.2.length = (y.b.toNat + 7) / 8 := h4
      omega
    · have h3 : mayK lst I y.i y.s r.2.2 = 0 := h3
      have h1 : r.1 = y.i := h1
      have h2 : r.2.1 = y.s := h2
      rw [h1, h2]
      exact mayK_I h3
  have D0 : Hid (DicA w p m cg I) := ⟨lst, hp, hm, hI, hT⟩
  rw [← hRW.out, hz] at HU
  rw [← hRW.out]
  clear hM hr hi had hp hm hI hT hc HZ hz hb0 h64
  go_enter Tryd.func11, Tryd.ntmps11
  go_wp2_with fail
  refine HU.out.mono ?_
  rintro e w1 hU
  obtain ⟨va, vc, us, rfl, hus, hva, hv, hs, hb⟩ := hU.form RW (by rw [if_pos rfl])
  rw [← hN.out] at hus hva ⊢
  have V1 : Hid (IsV w1 w.heap.size (.slice va us.length vc) us) := hv
  have S1 : Hid (Vs w1 w.heap.size us RW) := hs
  have UL : Hid (us.length = N) := hus
  have VA : Hid (0 < N → ∃ g, va = some ⟨g, 0, none⟩) := hva
  have B1 : Hid (Below w.heap.size w w1) := hb
  have D1 : Hid (DicA w1 p m cg I) := D0.out.next hb
  have DL : Hid (p < w.heap.size ∧ m < w.heap.size) := D0.out.lt
  clear hU hv hs hb hus hva HU
  go_wp2_with fail
  go_loopw [23] (fun iv wr => ∃ k : Nat, k ≤ N ∧ iv = .int .i64 (k : Int) ∧ Hid (DicA wr p m (cg + k) (putA I (RW.take k)) ∧ Kp [p, m] w1 wr)) (fun iv _ => N - (intOf iv).toNat)
  case atStart => exact ⟨0, Nat.zero_le _, rfl, by simpa [putA] using D1.out, Kp.refl _ _⟩
  case round =>
    obtain ⟨k, hk, rfl, HR⟩ := hrel
    have HK : Hid (Kp [p, m] w1 wr) := HR.out.2
    have HD : Hid (DicA wr p m (cg + k) (putA I (RW.take k))) := HR.out.1
    clear HR
    by_cases hkN : k < N
    · have gk : (k : Int) < (N : Int) := by omega
      have gk0 : (0 : Int) ≤ (k : Int) := by omega
      obtain ⟨gv, rfl⟩ := VA.out (by omega)
      obtain ⟨rr, hrr⟩ : ∃ rr, RW[k]? = some rr := ⟨_, List.getElem?_eq_getElem (by have := hN.out; omega)⟩
      have TK : Hid (RW.take (k + 1) = RW.take k ++ [rr]) := by
        show _ = _
        have hk9 : k < RW.length := by have := hN.out; omega
        rw [List.take_succ_eq_append_getElem hk9]
        congr
        exact Option.some.inj ((List.getElem?_eq_getElem hk9).symm.trans hrr)
      obtain ⟨ri, rs, rz⟩ := rr
      obtain ⟨ho, hl8, hmay⟩ := RM.out _ (List.mem_of_getElem? hrr)
      obtain ⟨gx, hx1, hx2, hx3⟩ := S1.out.2 k _ hrr
      dsimp only at hx1 hx3 ho hl8 hmay
      have hnp : gx ∉ [p, m] := by have := DL.out; simp; omega
      have GX : Hid (wr.heap[gx]? = some (.cells (rz.map (Value.int .u8)).toArray 5 (0, 0))) := HK.out.at hnp hx3
      have LD := (show IsV wr w.heap.size (.slice (some ⟨gv, 0, none⟩) us.length vc) us from V1.out.same fun kk hkk => HK.out.block kk (V1.out.lt kk hkk).2 (by have := (V1.out.lt kk hkk).1; have := DL.out; simp; omega)).load k _ hx1
      have HO : Hid (Oct rz) := ho
      have HL8 : Hid (rz.length ≤ 8) := hl8
      have HMY : Hid (mayI (putA I (RW.take k)) ri rs rz) := ((SameI.refl I).puts _).may hmay
      obtain ⟨rn, hrn⟩ : ∃ rn, Hid (rn = rz.length) := ⟨_, rfl⟩
      have HWR : Hid (∀ W, Below wr.heap.size wr W → Calls Tryd.prog 7 #[.pointer (some ⟨p, 0, none⟩), plV ri rs, .slice (some ⟨gx, 0, none⟩) rn rn] W fun e w' => e = .returned (.int .u32 0) ∧ DicA w' p m (cg + k + 1) (putI (putA I (RW.take k)) ri rs rz) ∧ Kp [p, m] W w') := fun W hW => by
        rw [hrn.out]
        refine (HD.out.next hW).write ri rs _ _ _ rz (row_block (blk11 hW GX.out) HO.out (by have := HL8.out; unfold maxLen; omega)) (by have := HL8.out; omega) (by omega) (by omega) hne HMY.out
      try dsimp only at LD
      rw [← hrn.out] at LD
      clear hrr hx1 hx2 hx3 ho hl8 hmay hnp HL8 HO HMY
      go_wp2_with (refine wpList_load_by rfl 36 (.tmp 25) rfl _ _ rfl LD ?_)
      refine (HWR.out _ (by repeat (first | exact Below.refl _ _ | apply Below.drew | apply Below.al))).mono ?_
      rintro e w2 ⟨rfl, hd, hk2⟩
      have F : Hid (DicA w2 p m (cg + (k + 1 : Nat)) (putA I (RW.take (k + 1))) ∧ Kp [p, m] w1 w2) := by
        refine (show _ ∧ _ from ⟨?_, (HK.out.al _).trans hk2⟩)
        rw [TK.out, putA_app, show cg + ((k + 1 : Nat) : Int) = cg + k + 1 by omega]
        exact hd
      have wk : IntKind.i64.wrap ((k : Int) + 1) = ((k + 1 : Nat) : Int) := by rw [IntKind.wrap_i64]; omega
      clear hd hk2 LD
      go_wp2_with fail
      exact ⟨⟨k + 1, by omega, by go_num, F.out⟩, by simp [intOf]; omega⟩
    · obtain rfl : k = N := by omega
      have R : Hid ((∃ cg', DicA wr p m cg' (putA I RW)) ∧ Kp [p, m] w wr) := by
        have hh := HD.out
        rw [List.take_of_length_le (by rw [← hN.out]; exact Nat.le_refl _)] at hh
        exact (show _ ∧ _ from ⟨⟨_, hh⟩, (Kp.of B1.out).trans HK.out⟩)
      go_wp2_with fail
      go_ret
      exact ⟨rfl, R.out⟩
#print axioms wr_any
end Go.Proofs.YtcdmldnaagiicaaDoor
