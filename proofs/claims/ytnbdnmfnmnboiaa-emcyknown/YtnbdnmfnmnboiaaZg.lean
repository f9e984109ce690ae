/-
  The walk of the program's wait.
-/
import Derived.Test.YtnbdnmfnmnboiaaZf
import Derived.Test.YtnbdnmfnmnboiaaTk9
namespace Go.Proofs.Ytnbdnmfnmnboiaa
open Go.RowKit

theorem ex_load_by {o : Oper} {a : Act} {w : World} (t : TypeId) (x : Operand) (ho : o.op = .load t x) (ad : Addr) (v : Value) (hx : a.eval x = .pointer (some ad)) (hr : (loadVar t ad).run Try.prog w = .ok v w) : (execOp a.eval o).run Try.prog w = .ok (.value v) w := by
  unfold execOp
  simp only [ho, hx, Instr.loadAt, Instr.sureAddr, Sem.run_bind, Sem.run_pure, Result.andThen_ok, hr]
theorem esC_set (S : ES) (m : Nat) (v u : Value) (ws : List Wt) (h : S.hs.length = 16) : (esC S m v).toArray.setIfInBounds 20 u = (esC { S with ws := ws } m u).toArray := by
  obtain ⟨A, I, st, hs, ln, ws', told, due⟩ := S
  simp only at h
  match hs, h with
  | [a0, a1, a2, a3, a4, a5, a6, a7, a8, a9, b0, b1, b2, b3, b4, b5], _ => simp [esC]
theorem Own.at_of {w : World} {e : TypeId} {k g o n cap : Nat} {xs : List Value} (h : OwnAt w e k g o n cap xs) : Own w e k (.slice (some ⟨g, o, none⟩) n cap) n xs := .inr ⟨g, o, cap, rfl, h⟩
/-- One more waits. -/
theorem IsE.push {w w' : World} {p m : Nat} {v : Value} {S : ES} (h : IsE w p m v S) (x : Wt) (hx : x.Ok) (hl : S.ws.length < 16) (hk : Kp v.ownBlock.toList w w') {g o cap : Nat} (hO : OwnAt w' 40 11 g o (S.ws.length + 1) cap (flw S.A S.ws ++ x.L S.A)) :
    IsE (w'.setCell ⟨p, 20, none⟩ (.slice (some ⟨g, o, none⟩) (S.ws.length + 1) cap)) p m (.slice (some ⟨g, o, none⟩) (S.ws.length + 1) cap) { S with ws := S.ws ++ [x] } := by
  have hp : w'.heap[p]? = some (.cells (esC S m v).toArray 66 (0, 0)) := hk.at (by have := h.pv.1; simpa using this) h.head
  have hgp : g ≠ p := by
    rintro rfl
    obtain ⟨cur, c1, _⟩ := hO.cur
    have := c1.symm.trans hp
    simp at this
  have hm : IsM w' m (msk S.st) := h.map.kp hk (by have := h.pv.2; simpa using this)
  have hmp : m ≠ p := fun e => h.pm e.symm
  refine ⟨?_, ?_, ?_, ?_⟩
  · rw [← esC_set S m v _ _ h.ok.h16]
    exact heap_setCell_same _ _ _ _ _ _ hp
  · exact hm.same (Below.heap_setCell _ _ _ _ hmp)
  · have e : (S.ws ++ [x]).length = S.ws.length + 1 := by simp
    show Own _ 40 11 _ (S.ws ++ [x]).length (flw S.A (S.ws ++ [x]))
    rw [e, flw_app, flw_one]
    exact Own.at_of (hO.same (Below.heap_setCell _ _ _ _ hgp))
  · obtain ⟨a0, a1, i0, i1, s16, bit, h16, l16, w16, wok, d0, d1, dn⟩ := h.ok
    exact ⟨a0, a1, i0, i1, s16, bit, h16, l16, by simp; omega, fun y hy => by
      rcases List.mem_append.1 hy with hy | hy
      · exact wok y hy
      · rw [List.mem_singleton.1 hy]; exact hx, d0, d1, dn⟩
theorem infoFr : (Try.prog.info? 40).map (fun i => (i.zero, i.size, i.bytes)) = some (some (frV 0 0 0 0 0 0 0 0 0 0 false), 11, 32) := by kernel_rfl
theorem row_eight (W : World) (n0 n1 n2 n3 n4 n5 n6 n7 : Int) (ho : Oct [n0, n1, n2, n3, n4, n5, n6, n7]) : Row (W.alloc (.cells #[.int .u8 n0, .int .u8 n1, .int .u8 n2, .int .u8 n3, .int .u8 n4, .int .u8 n5, .int .u8 n6, .int .u8 n7] 5)) (some ⟨W.heap.size, 0, none⟩) 8 [n0, n1, n2, n3, n4, n5, n6, n7] :=
  row_lit _ _ _ [n0, n1, n2, n3, n4, n5, n6, n7] 8 rfl ho rfl
theorem Wt.oct (x : Wt) (h : x.Ok) : Oct [x.c % 256, x.c / 256, x.r, x.i0, x.i1, x.i2, x.i3, x.i4] := by
  have c0 := h.c0
  have c1 := h.c1
  intro n hn
  simp only [List.mem_cons, List.not_mem_nil, or_false] at hn
  rcases hn with rfl | rfl | rfl | hn
  · omega
  · omega
  · exact ⟨h.r0, h.r1⟩
  · exact h.o n (by simpa using hn)
theorem mk_wt (a : Int) (x : Wt) (ha : a ≤ 127) : mkR (128 + a) [x.c % 256, x.c / 256, x.r, x.i0, x.i1, x.i2, x.i3, x.i4] = ⟨128 + a, 8, x.c % 256, x.c / 256, x.r, x.i0, x.i1, x.i2, x.i3, x.i4, false, 0⟩ := mkR_good _ _ (by omega) (by simp)
/-- What wait leaves. -/
def WtPost (w w' : World) (p m : Nat) (v : Value) (S : ES) (x : Wt) : Prop := ∃ v', IsE w' p m v' { S with ws := S.ws ++ [x] } ∧ (∀ g, v'.ownBlock = some g → v.ownBlock = some g ∨ w.heap.size ≤ g) ∧ Kp (fpE p m v) w w'

set_option linter.unusedSimpArgs false in
set_option maxHeartbeats 4000000 in
set_option maxRecDepth 100000 in
theorem wait_any {w : World} {p m : Nat} {v : Value} {S : ES} (h : IsE w p m v S) (hl : S.ws.length < 16) (c i0 i1 i2 i3 i4 : Int) (c0 : 0 ≤ c ∧ c < 65536) (ho : Oct [i0, i1, i2, i3, i4]) :
    Calls Try.prog 37 #[.pointer (some ⟨p, 0, none⟩), .int .u16 c, arr5 i0 i1 i2 i3 i4] w fun e w' => e = .returned (.tuple #[]) ∧ WtPost w w' p m v S ⟨c, S.reg, i0, i1, i2, i3, i4⟩ := by
  obtain ⟨rg, hrg⟩ : ∃ rg : Int, Hid (rg = (S.reg : Int)) := ⟨_, rfl⟩
  rw [← hrg.out]
  have XO : Hid ((⟨c, rg, i0, i1, i2, i3, i4⟩ : Wt).Ok) := ⟨c0.1, c0.2, by rw [hrg.out]; exact Int.natCast_nonneg _, by show rg < 256; rw [hrg.out]; have := S.reg_lt h.ok; omega, ho⟩
  obtain ⟨x, hx⟩ : ∃ x : Wt, Hid (x = ⟨c, rg, i0, i1, i2, i3, i4⟩) := ⟨_, rfl⟩
  rw [← hx.out] at XO ⊢
  obtain ⟨d0, hd0⟩ : ∃ d, Hid (d = x.c % 256) := ⟨_, rfl⟩
  obtain ⟨d1, hd1⟩ : ∃ d, Hid (d = x.c / 256) := ⟨_, rfl⟩
  have XL : Hid (x.L S.A = (frC (128 + S.A) 8 d0 d1 rg i0 i1 i2 i3 i4 false).toList) := by show _ = _; unfold Wt.L; rw [hd0.out, hd1.out, hx.out]
  have X8 : Hid (Oct [d0, d1, rg, i0, i1, i2, i3, i4]) := by show Oct _; rw [hd0.out, hd1.out]; have := Wt.oct x XO.out; rw [hx.out] at this ⊢; exact this
  have MK : Hid (∀ (W : World) (b : Nat), Row W (some ⟨b, 0, none⟩) 8 [d0, d1, rg, i0, i1, i2, i3, i4] → Calls Try.prog 44 #[.int .u16 (128 + S.A), .slice (some ⟨b, 0, none⟩) 8 8] W fun e w' => e = .returned (.tuple #[frV (128 + S.A) 8 d0 d1 rg i0 i1 i2 i3 i4 false, .int .i64 0]) ∧ Below W.heap.size W w') := fun W b hr => by
    have := make_any (128 + S.A) (some ⟨b, 0, none⟩) 8 8 _ W hr
    rwa [mkR_good _ _ (by have := h.ok.a1; omega) (by simp)] at this
  have RG : Hid (∀ W, Below w.heap.size w W → Calls Try.prog 19 #[.pointer (some ⟨p, 0, none⟩)] W fun e w' => e = .returned (.int .u8 rg) ∧ Below W.heap.size W w') := fun W hW => by rw [hrg.out]; exact register_any (h.next hW)
  have V1 : IntKind.u8.wrap c = d0 := by rw [hd0.out, hx.out, IntKind.wrap_u8]
  have V2 : IntKind.u8.wrap (c / 256) = d1 := by rw [hd1.out, hx.out, IntKind.wrap_u8]; show c / 256 % 256 = c / 256; omega
  have V2' : IntKind.u16.wrap (c / 256) = c / 256 := by rw [IntKind.wrap_u16]; omega
  have V3 : IntKind.u16.wrap S.A = S.A := by rw [IntKind.wrap_u16]; have := h.ok.a0; have := h.ok.a1; omega
  have V4 : IntKind.u16.wrap (128 + S.A) = 128 + S.A := by rw [IntKind.wrap_u16]; have := h.ok.a0; have := h.ok.a1; omega
  have HE : Hid (IsE w p m v S) := h
  have HL : Hid (S.ws.length < 16) := hl
  have k0 := h.c0
  have lp := h.lt
  clear h hl ho c0
  go_enter Try.func37, Try.ntmps37
  go_wp2_with fail
  have bI := at11 w (row5 i0 i1 i2 i3 i4) w.heap.size rfl
  have K0 : Below w.heap.size w (w.alloc (row5 i0 i1 i2 i3 i4)) := (by repeat (first | exact Below.refl _ _ | apply Below.drew | apply Below.al))
  generalize hy : (w.alloc (row5 i0 i1 i2 i3 i4) : World) = y at bI K0 ⊢
  clear hy
  have kp0 := cl11 K0 k0
  have kI0 : y.cell? ⟨w.heap.size, 0, none⟩ = some (.int .u8 i0) := by rw [cell_of_row y _ 0 _ _ _ bI]; rfl
  have kI1 : y.cell? ⟨w.heap.size, 1, none⟩ = some (.int .u8 i1) := by rw [cell_of_row y _ 1 _ _ _ bI]; rfl
  have kI2 : y.cell? ⟨w.heap.size, 2, none⟩ = some (.int .u8 i2) := by rw [cell_of_row y _ 2 _ _ _ bI]; rfl
  have kI3 : y.cell? ⟨w.heap.size, 3, none⟩ = some (.int .u8 i3) := by rw [cell_of_row y _ 3 _ _ _ bI]; rfl
  have kI4 : y.cell? ⟨w.heap.size, 4, none⟩ = some (.int .u8 i4) := by rw [cell_of_row y _ 4 _ _ _ bI]; rfl
  clear bI k0
  have Y1 : Below w.heap.size w y.drew := K0.drew
  have lY : Hid (w.heap.size ≤ y.heap.size) := K0.size
  have HY : Hid (Below w.heap.size w y) := K0
  clear K0
  refine wp_region_held_drew (S := fun x1 => Below y.heap.size y x1) (by kernel_rfl) (Below.drew (Below.refl _ _)) (fun hHeld => ?_)
  refine tk 0 (.pointer (some ⟨p, 0, none⟩)) rfl (.inl ⟨by rfl, ?_⟩) ?_
  · intro w9 hSw
    try dsimp only at hSw
    go_simp
    all_goals try decide
    all_goals try assumption
    all_goals try omega
  try simp only [Act.put, gA, gS, gZ, sA, sZ, sS]
  refine tk 1 (.pointer (some ⟨p, 0, none⟩)) rfl (.inl ⟨by rfl, ?_⟩) ?_
  · intro w9 hSw
    try dsimp only at hSw
    go_simp
    all_goals try decide
    all_goals try assumption
    all_goals try omega
  try simp only [Act.put, gA, gS, gZ, sA, sZ, sS]
  refine tk 2 (.pointer (some ⟨p, 0, none⟩)) rfl (.inl ⟨by rfl, ?_⟩) ?_
  · intro w9 hSw
    try dsimp only at hSw
    go_simp
    all_goals try decide
    all_goals try assumption
    all_goals try omega
  try simp only [Act.put, gA, gS, gZ, sA, sZ, sS]
  refine tk 3 (.int .u8 S.A) rfl (.inl ⟨by rfl, ?_⟩) ?_
  · intro w9 hSw
    try dsimp only at hSw
    have hc9 := cl11 hSw kp0
    go_simp
    all_goals try decide
    all_goals try assumption
    all_goals try omega
  try simp only [Act.put, gA, gS, gZ, sA, sZ, sS]
  refine tk 4 (.int .u16 S.A) rfl (.inl ⟨by rfl, ?_⟩) ?_
  · intro w9 hSw
    try dsimp only at hSw
    go_simp
    all_goals try decide
    all_goals try assumption
    all_goals try omega
  try simp only [Act.put, gA, gS, gZ, sA, sZ, sS]
  refine tk 5 (.int .u16 (128 + S.A)) rfl (.inl ⟨by rfl, ?_⟩) ?_
  · intro w9 hSw
    try dsimp only at hSw
    go_simp
    all_goals try decide
    all_goals try assumption
    all_goals try omega
  try simp only [Act.put, gA, gS, gZ, sA, sZ, sS]
  refine tk 6 (.int .u16 c) rfl (.inl ⟨by rfl, ?_⟩) ?_
  · intro w9 hSw
    try dsimp only at hSw
    go_simp
    all_goals try decide
    all_goals try assumption
    all_goals try omega
  try simp only [Act.put, gA, gS, gZ, sA, sZ, sS]
  refine tk 7 (.int .u8 d0) rfl (.inl ⟨by rfl, ?_⟩) ?_
  · intro w9 hSw
    try dsimp only at hSw
    go_simp
    all_goals try decide
    all_goals try assumption
    all_goals try omega
  try simp only [Act.put, gA, gS, gZ, sA, sZ, sS]
  refine tk 8 (.int .u16 c) rfl (.inl ⟨by rfl, ?_⟩) ?_
  · intro w9 hSw
    try dsimp only at hSw
    go_simp
    all_goals try decide
    all_goals try assumption
    all_goals try omega
  try simp only [Act.put, gA, gS, gZ, sA, sZ, sS]
  refine tk 9 (.int .u16 (c / 256)) rfl (.inl ⟨by rfl, ?_⟩) ?_
  · intro w9 hSw
    try dsimp only at hSw
    go_simp
    all_goals try decide
    all_goals try assumption
    all_goals try omega
  try simp only [Act.put, gA, gS, gZ, sA, sZ, sS]
  refine tk 10 (.int .u8 d1) rfl (.inl ⟨by rfl, ?_⟩) ?_
  · intro w9 hSw
    try dsimp only at hSw
    go_simp
    all_goals try decide
    all_goals try assumption
    all_goals try omega
  try simp only [Act.put, gA, gS, gZ, sA, sZ, sS]
  refine tk 11 (.pointer (some ⟨p, 0, none⟩)) rfl (.inl ⟨by rfl, ?_⟩) ?_
  · intro w9 hSw
    try dsimp only at hSw
    go_simp
    all_goals try decide
    all_goals try assumption
    all_goals try omega
  try simp only [Act.put, gA, gS, gZ, sA, sZ, sS]
  refine tk 13 (.pointer (some ⟨w.heap.size, 0, none⟩)) rfl (.inl ⟨by rfl, ?_⟩) ?_
  · intro w9 hSw
    try dsimp only at hSw
    go_simp
    all_goals try decide
    all_goals try assumption
    all_goals try omega
  try simp only [Act.put, gA, gS, gZ, sA, sZ, sS]
  refine tk 14 (.int .u8 i0) rfl (.inl ⟨by rfl, ?_⟩) ?_
  · intro w9 hSw
    try dsimp only at hSw
    have hc9 := cl11 hSw kI0
    go_simp
    all_goals try decide
    all_goals try assumption
    all_goals try omega
  try simp only [Act.put, gA, gS, gZ, sA, sZ, sS]
  refine tk 15 (.pointer (some ⟨w.heap.size, 1, none⟩)) rfl (.inl ⟨by rfl, ?_⟩) ?_
  · intro w9 hSw
    try dsimp only at hSw
    go_simp
    all_goals try decide
    all_goals try assumption
    all_goals try omega
  try simp only [Act.put, gA, gS, gZ, sA, sZ, sS]
  refine tk 16 (.int .u8 i1) rfl (.inl ⟨by rfl, ?_⟩) ?_
  · intro w9 hSw
    try dsimp only at hSw
    have hc9 := cl11 hSw kI1
    go_simp
    all_goals try decide
    all_goals try assumption
    all_goals try omega
  try simp only [Act.put, gA, gS, gZ, sA, sZ, sS]
  refine tk 17 (.pointer (some ⟨w.heap.size, 2, none⟩)) rfl (.inl ⟨by rfl, ?_⟩) ?_
  · intro w9 hSw
    try dsimp only at hSw
    go_simp
    all_goals try decide
    all_goals try assumption
    all_goals try omega
  try simp only [Act.put, gA, gS, gZ, sA, sZ, sS]
  refine tk 18 (.int .u8 i2) rfl (.inl ⟨by rfl, ?_⟩) ?_
  · intro w9 hSw
    try dsimp only at hSw
    have hc9 := cl11 hSw kI2
    go_simp
    all_goals try decide
    all_goals try assumption
    all_goals try omega
  try simp only [Act.put, gA, gS, gZ, sA, sZ, sS]
  refine tk 19 (.pointer (some ⟨w.heap.size, 3, none⟩)) rfl (.inl ⟨by rfl, ?_⟩) ?_
  · intro w9 hSw
    try dsimp only at hSw
    go_simp
    all_goals try decide
    all_goals try assumption
    all_goals try omega
  try simp only [Act.put, gA, gS, gZ, sA, sZ, sS]
  refine tk 20 (.int .u8 i3) rfl (.inl ⟨by rfl, ?_⟩) ?_
  · intro w9 hSw
    try dsimp only at hSw
    have hc9 := cl11 hSw kI3
    go_simp
    all_goals try decide
    all_goals try assumption
    all_goals try omega
  try simp only [Act.put, gA, gS, gZ, sA, sZ, sS]
  refine tk 21 (.pointer (some ⟨w.heap.size, 4, none⟩)) rfl (.inl ⟨by rfl, ?_⟩) ?_
  · intro w9 hSw
    try dsimp only at hSw
    go_simp
    all_goals try decide
    all_goals try assumption
    all_goals try omega
  try simp only [Act.put, gA, gS, gZ, sA, sZ, sS]
  refine tk 22 (.int .u8 i4) rfl (.inl ⟨by rfl, ?_⟩) ?_
  · intro w9 hSw
    try dsimp only at hSw
    have hc9 := cl11 hSw kI4
    go_simp
    all_goals try decide
    all_goals try assumption
    all_goals try omega
  try simp only [Act.put, gA, gS, gZ, sA, sZ, sS]
  refine wpAnyH_ready (rs := [12, 28]) (by kernel_rfl) (by simp) ?_
  refine AllReadyH.cons rfl (fun K' hK => ?_) (AllReadyH.cons rfl (fun K' hK => ?_) AllReadyH.nil)
  · rw [if_pos (by rfl)]
    simp only [gA, gS, gZ]
    have S0 := hHeld
    go_wp2_with fail
    refine (RG.out _ (Below.trans HY.out (S0.mono lY.out))).mono ?_
    rintro e wr ⟨rfl, hbr⟩
    try go_wp2_with fail
    refine hK.out _ _ (Below.andThen S0 hbr) (fun hHeld => ?_)
    clear hK K'
    try simp only [Act.put, gA, gS, gZ, sA, sZ, sS]
    clear hbr
    refine wpAnyH_ready (rs := [23, 28]) (by kernel_rfl) (by simp) ?_
    refine AllReadyH.cons rfl (fun K' hK => ?_) (AllReadyH.cons rfl (fun K' hK => ?_) AllReadyH.nil)
    · rw [if_pos (by rfl)]
      simp only [gA, gS, gZ]
      have S0 := hHeld
      go_wp2_with fail
      refine hK.out _ _ (Below.al S0 _) (fun hHeld => ?_)
      clear hK K'
      try simp only [Act.put, gA, gS, gZ, sA, sZ, sS]
      have rB := row_eight wr d0 d1 rg i0 i1 i2 i3 i4 X8.out
      have lB := lt_of_heap (at11 wr (.cells #[.int .u8 d0, .int .u8 d1, .int .u8 rg, .int .u8 i0, .int .u8 i1, .int .u8 i2, .int .u8 i3, .int .u8 i4] 5) (wr.heap.size) rfl)
      clear S0
      generalize hx : (wr.alloc (.cells #[.int .u8 d0, .int .u8 d1, .int .u8 rg, .int .u8 i0, .int .u8 i1, .int .u8 i2, .int .u8 i3, .int .u8 i4] 5) : World) = x1_ at hHeld rB lB ⊢
      clear hx
      refine wpAnyH_ready (rs := [24, 28]) (by kernel_rfl) (by simp) ?_
      refine AllReadyH.cons rfl (fun K' hK => ?_) (AllReadyH.cons rfl (fun K' hK => ?_) AllReadyH.nil)
      · rw [if_pos (by rfl)]
        simp only [gA, gS, gZ]
        have S0 := hHeld
        go_wp2_with fail
        refine (MK.out _ _ rB).mono ?_
        rintro e wm ⟨rfl, hbm⟩
        try go_wp2_with fail
        refine hK.out _ _ (Below.andThen S0 hbm) (fun hHeld => ?_)
        clear hK K'
        try simp only [Act.put, gA, gS, gZ, sA, sZ, sS]
        clear hbm rB lB
        refine tk 25 (.tuple #[frV (128 + S.A) 8 d0 d1 rg i0 i1 i2 i3 i4 false, .int .i64 0]) rfl (.inl ⟨by rfl, ?_⟩) ?_
        · intro w9 hSw
          try dsimp only at hSw
          go_simp
          all_goals try decide
          all_goals try assumption
          all_goals try omega
        try simp only [Act.put, gA, gS, gZ, sA, sZ, sS]
        refine tk 26 (frV (128 + S.A) 8 d0 d1 rg i0 i1 i2 i3 i4 false) rfl (.inl ⟨by rfl, ?_⟩) ?_
        · intro w9 hSw
          try dsimp only at hSw
          go_simp
          all_goals try decide
          all_goals try assumption
          all_goals try omega
        try simp only [Act.put, gA, gS, gZ, sA, sZ, sS]
        refine tk 27 (.int .i64 0) rfl (.inl ⟨by rfl, ?_⟩) ?_
        · intro w9 hSw
          try dsimp only at hSw
          go_simp
          all_goals try decide
          all_goals try assumption
          all_goals try omega
        try simp only [Act.put, gA, gS, gZ, sA, sZ, sS]
        refine wpAnyH_ready (rs := [28]) (by kernel_rfl) (by simp) ?_
        refine AllReadyH.cons rfl (fun K' hK => ?_) AllReadyH.nil
        rw [if_pos (by rfl)]
        simp only [gA, gS, gZ]
        have S0 := hHeld
        go_wp2_with fail
        refine hK.out _ _ (Below.al S0 _) (fun hHeld => ?_)
        clear hK K'
        try simp only [Act.put, gA, gS, gZ, sA, sZ, sS]
        have fF : (wm.alloc (.cells (frC 0 0 0 0 0 0 0 0 0 0 false) 40)).heap[wm.heap.size]? = some (.cells (frC 0 0 0 0 0 0 0 0 0 0 false) 40 (0, 0)) := at11 wm (.cells (frC 0 0 0 0 0 0 0 0 0 0 false) 40) (wm.heap.size) (by simp)
        have lF : Hid (y.heap.size ≤ wm.heap.size) := by show _ ≤ _; have := S0.size; omega
        clear S0
        generalize hx : ((wm.alloc (.cells (frC 0 0 0 0 0 0 0 0 0 0 false) 40)) : World) = x2_ at hHeld fF ⊢
        clear hx
        refine wpAnyH_ready (rs := [29]) (by kernel_rfl) (by simp) ?_
        refine AllReadyH.cons rfl (fun K' hK => ?_) AllReadyH.nil
        rw [if_pos (by rfl)]
        simp only [gA, gS, gZ]
        have S0 := hHeld
        refine wp_store_row 40 (.tmp 6) (.tmp 34) rfl (wm.heap.size) (frC (128 + S.A) 8 d0 d1 rg i0 i1 i2 i3 i4 false) rfl rfl 40 _ fF infoF rfl (frC_one _ _ _ _ _ _ _ _ _ _ _) ?_
        refine hK.out _ _ (below_setRow S0 lF.out _) (fun hHeld => ?_)
        clear hK K'
        try simp only [Act.put, gA, gS, gZ, sA, sZ, sS]
        have fG := setRow_heap _ _ _ (frC (128 + S.A) 8 d0 d1 rg i0 i1 i2 i3 i4 false) _ _ fF
        clear fF S0
        generalize hx : (x2_.setRow (wm.heap.size) (frC (128 + S.A) 8 d0 d1 rg i0 i1 i2 i3 i4 false) : World) = z at hHeld fG ⊢
        clear hx
        refine tk 30 (.int .i64 0) rfl (.inl ⟨by rfl, ?_⟩) ?_
        · intro w9 hSw
          try dsimp only at hSw
          go_simp
          all_goals try decide
          all_goals try assumption
          all_goals try omega
        try simp only [Act.put, gA, gS, gZ, sA, sZ, sS]
        refine wpAnyH_done (by kernel_rfl) ?_ _
        obtain ⟨BF, hBF⟩ : ∃ b, Hid (b = wm.heap.size) := ⟨_, rfl⟩
        have LF : Hid (y.heap.size ≤ BF) := by show _ ≤ _; rw [hBF.out]; exact lF.out
        rw [← hBF.out] at fG ⊢
        clear hBF lF
        have KZ : Hid (Below w.heap.size w z) := Below.trans HY.out (hHeld.mono lY.out)
        have HZ : Hid (IsE z p m v S) := HE.out.next KZ.out
        clear hHeld kp0 kI0 kI1 kI2 kI3 kI4 V1 V2 V2' V3 V4 Y1 RG MK X8
        go_wp2_with fail
        have z20 := HZ.out.c20
        have lz := HZ.out.lt
        obtain ⟨i9, hi9, hz9, hy9, hb9⟩ := info_parts infoFr
        refine wp_region_held_drew (S := fun x1 => Kp (fpE p m v) z x1) (by kernel_rfl) (Kp.drew (Kp.refl _ _)) (fun hHeld => ?_)
        refine tk 0 (.pointer (some ⟨p, 0, none⟩)) rfl (.inl ⟨by rfl, ?_⟩) ?_
        · intro w9 hSw
          try dsimp only at hSw
          go_simp
          all_goals try decide
          all_goals try assumption
          all_goals try omega
        try simp only [Act.put, gA, gS, gZ, sA, sZ, sS]
        refine tk 1 (.pointer (some ⟨p, 0, none⟩)) rfl (.inl ⟨by rfl, ?_⟩) ?_
        · intro w9 hSw
          try dsimp only at hSw
          go_simp
          all_goals try decide
          all_goals try assumption
          all_goals try omega
        try simp only [Act.put, gA, gS, gZ, sA, sZ, sS]
        refine tk 2 (.pointer (some ⟨p, 0, none⟩)) rfl (.inl ⟨by rfl, ?_⟩) ?_
        · intro w9 hSw
          try dsimp only at hSw
          go_simp
          all_goals try decide
          all_goals try assumption
          all_goals try omega
        try simp only [Act.put, gA, gS, gZ, sA, sZ, sS]
        refine tk 3 (.pointer (some ⟨p, 20, none⟩)) rfl (.inl ⟨by rfl, ?_⟩) ?_
        · intro w9 hSw
          try dsimp only at hSw
          go_simp
          all_goals try decide
          all_goals try assumption
          all_goals try omega
        try simp only [Act.put, gA, gS, gZ, sA, sZ, sS]
        refine tk 5 (frV (128 + S.A) 8 d0 d1 rg i0 i1 i2 i3 i4 false) rfl (.inl ⟨by rfl, ?_⟩) ?_
        · intro w9 hSw
          try dsimp only at hSw
          exact ex_load_by 40 (.tmp 6) rfl _ _ rfl (loadF _ _ _ _ _ _ _ _ _ _ _ _ _ (Kp.at hSw (by intro hm; have := HE.out.inh _ hm; have := lY.out; have := LF.out; omega) fG))
        try simp only [Act.put, gA, gS, gZ, sA, sZ, sS]
        refine wpAnyH_ready (rs := [4, 6]) (by kernel_rfl) (by simp) ?_
        refine AllReadyH.cons rfl (fun K' hK => ?_) (AllReadyH.cons rfl (fun K' hK => ?_) AllReadyH.nil)
        · rw [if_pos (by rfl)]
          simp only [gA, gS, gZ]
          have S0 := hHeld
          go_wp2_with fail
          refine hK.out _ _ (S0) (fun hHeld => ?_)
          clear hK K'
          try simp only [Act.put, gA, gS, gZ, sA, sZ, sS]
          clear S0
          refine wpAnyH_ready (rs := [6]) (by kernel_rfl) (by simp) ?_
          refine AllReadyH.cons rfl (fun K' hK => ?_) AllReadyH.nil
          rw [if_pos (by rfl)]
          simp only [gA, gS, gZ]
          have S0 := hHeld
          go_wp2_with fail
          refine hK.out _ _ (Kp.al S0 _) (fun hHeld => ?_)
          clear hK K'
          try simp only [Act.put, gA, gS, gZ, sA, sZ, sS]
          refine wpAnyH_ready (rs := [7]) (by kernel_rfl) (by simp) ?_
          refine AllReadyH.cons rfl (fun K' hK => ?_) AllReadyH.nil
          rw [if_pos (by rfl)]
          simp only [gA, gS, gZ]
          have S0 := hHeld
          have fB : ((z.alloc (.cells (frC (128 + S.A) 8 d0 d1 rg i0 i1 i2 i3 i4 false) 40)).drew).heap[z.heap.size]? = some (.cells (frC (128 + S.A) 8 d0 d1 rg i0 i1 i2 i3 i4 false) 40 (0, 0)) := at11 _ _ _ rfl
          obtain ⟨g, o, cap, w2, rr, hO, hg, hk⟩ := Own.append (w := (z.alloc (.cells (frC (128 + S.A) 8 d0 d1 rg i0 i1 i2 i3 i4 false) 40)).drew) (ty := 64) Try.underlying64 hi9 hz9 hy9 hb9 rfl (by decide) ((HZ.out.row).same (fun g hg => (Below.heap_alloc _ _ _ ((HZ.out.row).lt g hg)))) ⟨z.heap.size, 0, none⟩ 1 1 (x.L S.A) rfl (fun j u hu => by rw [add_at, Nat.zero_add, cell_of_row _ _ j _ _ _ fB]; rw [XL.out] at hu; simpa using hu) (fun u hu => by rw [XL.out] at hu; exact (Array.all_eq_true_iff_forall_mem.1 (frC_one (128 + S.A) 8 d0 d1 rg i0 i1 i2 i3 i4 false)) u (by simpa using hu)) (by decide) (by have := HL.out; omega) (by decide)
          refine wp_app_by _ _ _ rfl _ _ rfl rfl _ rr ?_
          have k2 : Kp v.ownBlock.toList z w2 := (Kp.drew (Kp.al (Kp.refl _ _) _)).trans hk
          have g2 : v.ownBlock = some g ∨ z.heap.size ≤ g := hg.imp id (fun e => by rw [e]; simp)
          refine hK.out _ _ (k2.more (by intro k hk; simp at hk ⊢; simp [hk])) (fun hHeld => ?_)
          clear hK K'
          try simp only [Act.put, gA, gS, gZ, sA, sZ, sS]
          clear hg hk rr fB S0
          refine tk 8 (.pointer (some ⟨p, 0, none⟩)) rfl (.inl ⟨by rfl, ?_⟩) ?_
          · intro w9 hSw
            try dsimp only at hSw
            go_simp
            all_goals try decide
            all_goals try assumption
            all_goals try omega
          try simp only [Act.put, gA, gS, gZ, sA, sZ, sS]
          refine tk 9 (.pointer (some ⟨p, 20, none⟩)) rfl (.inl ⟨by rfl, ?_⟩) ?_
          · intro w9 hSw
            try dsimp only at hSw
            go_simp
            all_goals try decide
            all_goals try assumption
            all_goals try omega
          try simp only [Act.put, gA, gS, gZ, sA, sZ, sS]
          refine wpAnyH_ready (rs := [10]) (by kernel_rfl) (by simp) ?_
          refine AllReadyH.cons rfl (fun K' hK => ?_) AllReadyH.nil
          rw [if_pos (by rfl)]
          simp only [gA, gS, gZ]
          have S0 := hHeld
          have PU : Hid _ := HZ.out.push x XO.out HL.out k2 hO
          have c9 : w2.cell? ⟨p, 20, none⟩ = some v := Kp.cell k2 z20 (by have := HZ.out.pv.1; simpa using this)
          have f9 : w2.frozen? ⟨p, 20, none⟩ = false := froz11 _ _ _ _ _ (k2.at (by have := HZ.out.pv.1; simpa using this) HZ.out.head)
          go_wp2_with fail
          refine hK.out _ _ (S0.set _ _ (.inl (by simp))) (fun hHeld => ?_)
          clear hK K'
          try simp only [Act.put, gA, gS, gZ, sA, sZ, sS]
          refine wpAnyH_done (by kernel_rfl) ?_ _
          have kx := hHeld
          clear hHeld
          go_wp2_with fail
          go_end0
          refine ⟨rfl, _, PU.out, ?_, ?_⟩
          · intro q hq
            cases hq
            exact g2.imp id (fun e => by show w.heap.size ≤ g; have := KZ.out.size; omega)
          · exact (Kp.of KZ.out).trans kx
        · rw [if_pos (by rfl)]
          simp only [gA, gS, gZ]
          have S0 := hHeld
          go_wp2_with fail
          refine hK.out _ _ (Kp.al S0 _) (fun hHeld => ?_)
          clear hK K'
          try simp only [Act.put, gA, gS, gZ, sA, sZ, sS]
          refine wpAnyH_ready (rs := [4]) (by kernel_rfl) (by simp) ?_
          refine AllReadyH.cons rfl (fun K' hK => ?_) AllReadyH.nil
          rw [if_pos (by rfl)]
          simp only [gA, gS, gZ]
          have S0 := hHeld
          go_wp2_with fail
          refine hK.out _ _ (S0) (fun hHeld => ?_)
          clear hK K'
          try simp only [Act.put, gA, gS, gZ, sA, sZ, sS]
          clear S0
          refine wpAnyH_ready (rs := [7]) (by kernel_rfl) (by simp) ?_
          refine AllReadyH.cons rfl (fun K' hK => ?_) AllReadyH.nil
          rw [if_pos (by rfl)]
          simp only [gA, gS, gZ]
          have S0 := hHeld
          have fB : ((z.alloc (.cells (frC (128 + S.A) 8 d0 d1 rg i0 i1 i2 i3 i4 false) 40)).drew).heap[z.heap.size]? = some (.cells (frC (128 + S.A) 8 d0 d1 rg i0 i1 i2 i3 i4 false) 40 (0, 0)) := at11 _ _ _ rfl
          obtain ⟨g, o, cap, w2, rr, hO, hg, hk⟩ := Own.append (w := (z.alloc (.cells (frC (128 + S.A) 8 d0 d1 rg i0 i1 i2 i3 i4 false) 40)).drew) (ty := 64) Try.underlying64 hi9 hz9 hy9 hb9 rfl (by decide) ((HZ.out.row).same (fun g hg => (Below.heap_alloc _ _ _ ((HZ.out.row).lt g hg)))) ⟨z.heap.size, 0, none⟩ 1 1 (x.L S.A) rfl (fun j u hu => by rw [add_at, Nat.zero_add, cell_of_row _ _ j _ _ _ fB]; rw [XL.out] at hu; simpa using hu) (fun u hu => by rw [XL.out] at hu; exact (Array.all_eq_true_iff_forall_mem.1 (frC_one (128 + S.A) 8 d0 d1 rg i0 i1 i2 i3 i4 false)) u (by simpa using hu)) (by decide) (by have := HL.out; omega) (by decide)
          refine wp_app_by _ _ _ rfl _ _ rfl rfl _ rr ?_
          have k2 : Kp v.ownBlock.toList z w2 := (Kp.drew (Kp.al (Kp.refl _ _) _)).trans hk
          have g2 : v.ownBlock = some g ∨ z.heap.size ≤ g := hg.imp id (fun e => by rw [e]; simp)
          refine hK.out _ _ (k2.more (by intro k hk; simp at hk ⊢; simp [hk])) (fun hHeld => ?_)
          clear hK K'
          try simp only [Act.put, gA, gS, gZ, sA, sZ, sS]
          clear hg hk rr fB S0
          refine tk 8 (.pointer (some ⟨p, 0, none⟩)) rfl (.inl ⟨by rfl, ?_⟩) ?_
          · intro w9 hSw
            try dsimp only at hSw
            go_simp
            all_goals try decide
            all_goals try assumption
            all_goals try omega
          try simp only [Act.put, gA, gS, gZ, sA, sZ, sS]
          refine tk 9 (.pointer (some ⟨p, 20, none⟩)) rfl (.inl ⟨by rfl, ?_⟩) ?_
          · intro w9 hSw
            try dsimp only at hSw
            go_simp
            all_goals try decide
            all_goals try assumption
            all_goals try omega
          try simp only [Act.put, gA, gS, gZ, sA, sZ, sS]
          refine wpAnyH_ready (rs := [10]) (by kernel_rfl) (by simp) ?_
          refine AllReadyH.cons rfl (fun K' hK => ?_) AllReadyH.nil
          rw [if_pos (by rfl)]
          simp only [gA, gS, gZ]
          have S0 := hHeld
          have PU : Hid _ := HZ.out.push x XO.out HL.out k2 hO
          have c9 : w2.cell? ⟨p, 20, none⟩ = some v := Kp.cell k2 z20 (by have := HZ.out.pv.1; simpa using this)
          have f9 : w2.frozen? ⟨p, 20, none⟩ = false := froz11 _ _ _ _ _ (k2.at (by have := HZ.out.pv.1; simpa using this) HZ.out.head)
          go_wp2_with fail
          refine hK.out _ _ (S0.set _ _ (.inl (by simp))) (fun hHeld => ?_)
          clear hK K'
          try simp only [Act.put, gA, gS, gZ, sA, sZ, sS]
          refine wpAnyH_done (by kernel_rfl) ?_ _
          have kx := hHeld
          clear hHeld
          go_wp2_with fail
          go_end0
          refine ⟨rfl, _, PU.out, ?_, ?_⟩
          · intro q hq
            cases hq
            exact g2.imp id (fun e => by show w.heap.size ≤ g; have := KZ.out.size; omega)
          · exact (Kp.of KZ.out).trans kx
      · rw [if_pos (by rfl)]
        simp only [gA, gS, gZ]
        have S0 := hHeld
        go_wp2_with fail
        refine hK.out _ _ (Below.al S0 _) (fun hHeld => ?_)
        clear hK K'
        try simp only [Act.put, gA, gS, gZ, sA, sZ, sS]
        have rB := rB.next (Below.al (Below.refl _ _) (.cells (frC 0 0 0 0 0 0 0 0 0 0 false) 40))
        have fF : (x1_.alloc (.cells (frC 0 0 0 0 0 0 0 0 0 0 false) 40)).heap[x1_.heap.size]? = some (.cells (frC 0 0 0 0 0 0 0 0 0 0 false) 40 (0, 0)) := at11 x1_ (.cells (frC 0 0 0 0 0 0 0 0 0 0 false) 40) (x1_.heap.size) (by simp)
        have lF : Hid (y.heap.size ≤ x1_.heap.size) := by show _ ≤ _; have := S0.size; omega
        clear S0
        generalize hx : ((x1_.alloc (.cells (frC 0 0 0 0 0 0 0 0 0 0 false) 40)) : World) = x2_ at hHeld fF rB ⊢
        clear hx
        refine wpAnyH_ready (rs := [24]) (by kernel_rfl) (by simp) ?_
        refine AllReadyH.cons rfl (fun K' hK => ?_) AllReadyH.nil
        rw [if_pos (by rfl)]
        simp only [gA, gS, gZ]
        have S0 := hHeld
        go_wp2_with fail
        refine (MK.out _ _ rB).mono ?_
        rintro e wm ⟨rfl, hbm⟩
        try go_wp2_with fail
        refine hK.out _ _ (Below.andThen S0 hbm) (fun hHeld => ?_)
        clear hK K'
        try simp only [Act.put, gA, gS, gZ, sA, sZ, sS]
        have fF := blk11 hbm fF
        clear hbm rB lB
        refine tk 25 (.tuple #[frV (128 + S.A) 8 d0 d1 rg i0 i1 i2 i3 i4 false, .int .i64 0]) rfl (.inl ⟨by rfl, ?_⟩) ?_
        · intro w9 hSw
          try dsimp only at hSw
          go_simp
          all_goals try decide
          all_goals try assumption
          all_goals try omega
        try simp only [Act.put, gA, gS, gZ, sA, sZ, sS]
        refine tk 26 (frV (128 + S.A) 8 d0 d1 rg i0 i1 i2 i3 i4 false) rfl (.inl ⟨by rfl, ?_⟩) ?_
        · intro w9 hSw
          try dsimp only at hSw
          go_simp
          all_goals try decide
          all_goals try assumption
          all_goals try omega
        try simp only [Act.put, gA, gS, gZ, sA, sZ, sS]
        refine tk 27 (.int .i64 0) rfl (.inl ⟨by rfl, ?_⟩) ?_
        · intro w9 hSw
          try dsimp only at hSw
          go_simp
          all_goals try decide
          all_goals try assumption
          all_goals try omega
        try simp only [Act.put, gA, gS, gZ, sA, sZ, sS]
        refine wpAnyH_ready (rs := [29]) (by kernel_rfl) (by simp) ?_
        refine AllReadyH.cons rfl (fun K' hK => ?_) AllReadyH.nil
        rw [if_pos (by rfl)]
        simp only [gA, gS, gZ]
        have S0 := hHeld
        refine wp_store_row 40 (.tmp 6) (.tmp 34) rfl (x1_.heap.size) (frC (128 + S.A) 8 d0 d1 rg i0 i1 i2 i3 i4 false) rfl rfl 40 _ fF infoF rfl (frC_one _ _ _ _ _ _ _ _ _ _ _) ?_
        refine hK.out _ _ (below_setRow S0 lF.out _) (fun hHeld => ?_)
        clear hK K'
        try simp only [Act.put, gA, gS, gZ, sA, sZ, sS]
        have fG := setRow_heap _ _ _ (frC (128 + S.A) 8 d0 d1 rg i0 i1 i2 i3 i4 false) _ _ fF
        clear fF S0
        generalize hx : (wm.setRow (x1_.heap.size) (frC (128 + S.A) 8 d0 d1 rg i0 i1 i2 i3 i4 false) : World) = z at hHeld fG ⊢
        clear hx
        refine tk 30 (.int .i64 0) rfl (.inl ⟨by rfl, ?_⟩) ?_
        · intro w9 hSw
          try dsimp only at hSw
          go_simp
          all_goals try decide
          all_goals try assumption
          all_goals try omega
        try simp only [Act.put, gA, gS, gZ, sA, sZ, sS]
        refine wpAnyH_done (by kernel_rfl) ?_ _
        obtain ⟨BF, hBF⟩ : ∃ b, Hid (b = x1_.heap.size) := ⟨_, rfl⟩
        have LF : Hid (y.heap.size ≤ BF) := by show _ ≤ _; rw [hBF.out]; exact lF.out
        rw [← hBF.out] at fG ⊢
        clear hBF lF
        have KZ : Hid (Below w.heap.size w z) := Below.trans HY.out (hHeld.mono lY.out)
        have HZ : Hid (IsE z p m v S) := HE.out.next KZ.out
        clear hHeld kp0 kI0 kI1 kI2 kI3 kI4 V1 V2 V2' V3 V4 Y1 RG MK X8
        go_wp2_with fail
        have z20 := HZ.out.c20
        have lz := HZ.out.lt
        obtain ⟨i9, hi9, hz9, hy9, hb9⟩ := info_parts infoFr
        refine wp_region_held_drew (S := fun x1 => Kp (fpE p m v) z x1) (by kernel_rfl) (Kp.drew (Kp.refl _ _)) (fun hHeld => ?_)
        refine tk 0 (.pointer (some ⟨p, 0, none⟩)) rfl (.inl ⟨by rfl, ?_⟩) ?_
        · intro w9 hSw
          try dsimp only at hSw
          go_simp
          all_goals try decide
          all_goals try assumption
          all_goals try omega
        try simp only [Act.put, gA, gS, gZ, sA, sZ, sS]
        refine tk 1 (.pointer (some ⟨p, 0, none⟩)) rfl (.inl ⟨by rfl, ?_⟩) ?_
        · intro w9 hSw
          try dsimp only at hSw
          go_simp
          all_goals try decide
          all_goals try assumption
          all_goals try omega
        try simp only [Act.put, gA, gS, gZ, sA, sZ, sS]
        refine tk 2 (.pointer (some ⟨p, 0, none⟩)) rfl (.inl ⟨by rfl, ?_⟩) ?_
        · intro w9 hSw
          try dsimp only at hSw
          go_simp
          all_goals try decide
          all_goals try assumption
          all_goals try omega
        try simp only [Act.put, gA, gS, gZ, sA, sZ, sS]
        refine tk 3 (.pointer (some ⟨p, 20, none⟩)) rfl (.inl ⟨by rfl, ?_⟩) ?_
        · intro w9 hSw
          try dsimp only at hSw
          go_simp
          all_goals try decide
          all_goals try assumption
          all_goals try omega
        try simp only [Act.put, gA, gS, gZ, sA, sZ, sS]
        refine tk 5 (frV (128 + S.A) 8 d0 d1 rg i0 i1 i2 i3 i4 false) rfl (.inl ⟨by rfl, ?_⟩) ?_
        · intro w9 hSw
          try dsimp only at hSw
          exact ex_load_by 40 (.tmp 6) rfl _ _ rfl (loadF _ _ _ _ _ _ _ _ _ _ _ _ _ (Kp.at hSw (by intro hm; have := HE.out.inh _ hm; have := lY.out; have := LF.out; omega) fG))
        try simp only [Act.put, gA, gS, gZ, sA, sZ, sS]
        refine wpAnyH_ready (rs := [4, 6]) (by kernel_rfl) (by simp) ?_
        refine AllReadyH.cons rfl (fun K' hK => ?_) (AllReadyH.cons rfl (fun K' hK => ?_) AllReadyH.nil)
        · rw [if_pos (by rfl)]
          simp only [gA, gS, gZ]
          have S0 := hHeld
          go_wp2_with fail
          refine hK.out _ _ (S0) (fun hHeld => ?_)
          clear hK K'
          try simp only [Act.put, gA, gS, gZ, sA, sZ, sS]
          clear S0
          refine wpAnyH_ready (rs := [6]) (by kernel_rfl) (by simp) ?_
          refine AllReadyH.cons rfl (fun K' hK => ?_) AllReadyH.nil
          rw [if_pos (by rfl)]
          simp only [gA, gS, gZ]
          have S0 := hHeld
          go_wp2_with fail
          refine hK.out _ _ (Kp.al S0 _) (fun hHeld => ?_)
          clear hK K'
          try simp only [Act.put, gA, gS, gZ, sA, sZ, sS]
          refine wpAnyH_ready (rs := [7]) (by kernel_rfl) (by simp) ?_
          refine AllReadyH.cons rfl (fun K' hK => ?_) AllReadyH.nil
          rw [if_pos (by rfl)]
          simp only [gA, gS, gZ]
          have S0 := hHeld
          have fB : ((z.alloc (.cells (frC (128 + S.A) 8 d0 d1 rg i0 i1 i2 i3 i4 false) 40)).drew).heap[z.heap.size]? = some (.cells (frC (128 + S.A) 8 d0 d1 rg i0 i1 i2 i3 i4 false) 40 (0, 0)) := at11 _ _ _ rfl
          obtain ⟨g, o, cap, w2, rr, hO, hg, hk⟩ := Own.append (w := (z.alloc (.cells (frC (128 + S.A) 8 d0 d1 rg i0 i1 i2 i3 i4 false) 40)).drew) (ty := 64) Try.underlying64 hi9 hz9 hy9 hb9 rfl (by decide) ((HZ.out.row).same (fun g hg => (Below.heap_alloc _ _ _ ((HZ.out.row).lt g hg)))) ⟨z.heap.size, 0, none⟩ 1 1 (x.L S.A) rfl (fun j u hu => by rw [add_at, Nat.zero_add, cell_of_row _ _ j _ _ _ fB]; rw [XL.out] at hu; simpa using hu) (fun u hu => by rw [XL.out] at hu; exact (Array.all_eq_true_iff_forall_mem.1 (frC_one (128 + S.A) 8 d0 d1 rg i0 i1 i2 i3 i4 false)) u (by simpa using hu)) (by decide) (by have := HL.out; omega) (by decide)
          refine wp_app_by _ _ _ rfl _ _ rfl rfl _ rr ?_
          have k2 : Kp v.ownBlock.toList z w2 := (Kp.drew (Kp.al (Kp.refl _ _) _)).trans hk
          have g2 : v.ownBlock = some g ∨ z.heap.size ≤ g := hg.imp id (fun e => by rw [e]; simp)
          refine hK.out _ _ (k2.more (by intro k hk; simp at hk ⊢; simp [hk])) (fun hHeld => ?_)
          clear hK K'
          try simp only [Act.put, gA, gS, gZ, sA, sZ, sS]
          clear hg hk rr fB S0
          refine tk 8 (.pointer (some ⟨p, 0, none⟩)) rfl (.inl ⟨by rfl, ?_⟩) ?_
          · intro w9 hSw
            try dsimp only at hSw
            go_simp
            all_goals try decide
            all_goals try assumption
            all_goals try omega
          try simp only [Act.put, gA, gS, gZ, sA, sZ, sS]
          refine tk 9 (.pointer (some ⟨p, 20, none⟩)) rfl (.inl ⟨by rfl, ?_⟩) ?_
          · intro w9 hSw
            try dsimp only at hSw
            go_simp
            all_goals try decide
            all_goals try assumption
            all_goals try omega
          try simp only [Act.put, gA, gS, gZ, sA, sZ, sS]
          refine wpAnyH_ready (rs := [10]) (by kernel_rfl) (by simp) ?_
          refine AllReadyH.cons rfl (fun K' hK => ?_) AllReadyH.nil
          rw [if_pos (by rfl)]
          simp only [gA, gS, gZ]
          have S0 := hHeld
          have PU : Hid _ := HZ.out.push x XO.out HL.out k2 hO
          have c9 : w2.cell? ⟨p, 20, none⟩ = some v := Kp.cell k2 z20 (by have := HZ.out.pv.1; simpa using this)
          have f9 : w2.frozen? ⟨p, 20, none⟩ = false := froz11 _ _ _ _ _ (k2.at (by have := HZ.out.pv.1; simpa using this) HZ.out.head)
          go_wp2_with fail
          refine hK.out _ _ (S0.set _ _ (.inl (by simp))) (fun hHeld => ?_)
          clear hK K'
          try simp only [Act.put, gA, gS, gZ, sA, sZ, sS]
          refine wpAnyH_done (by kernel_rfl) ?_ _
          have kx := hHeld
          clear hHeld
          go_wp2_with fail
          go_end0
          refine ⟨rfl, _, PU.out, ?_, ?_⟩
          · intro q hq
            cases hq
            exact g2.imp id (fun e => by show w.heap.size ≤ g; have := KZ.out.size; omega)
          · exact (Kp.of KZ.out).trans kx
        · rw [if_pos (by rfl)]
          simp only [gA, gS, gZ]
          have S0 := hHeld
          go_wp2_with fail
          refine hK.out _ _ (Kp.al S0 _) (fun hHeld => ?_)
          clear hK K'
          try simp only [Act.put, gA, gS, gZ, sA, sZ, sS]
          refine wpAnyH_ready (rs := [4]) (by kernel_rfl) (by simp) ?_
          refine AllReadyH.cons rfl (fun K' hK => ?_) AllReadyH.nil
          rw [if_pos (by rfl)]
          simp only [gA, gS, gZ]
          have S0 := hHeld
          go_wp2_with fail
          refine hK.out _ _ (S0) (fun hHeld => ?_)
          clear hK K'
          try simp only [Act.put, gA, gS, gZ, sA, sZ, sS]
          clear S0
          refine wpAnyH_ready (rs := [7]) (by kernel_rfl) (by simp) ?_
          refine AllReadyH.cons rfl (fun K' hK => ?_) AllReadyH.nil
          rw [if_pos (by rfl)]
          simp only [gA, gS, gZ]
          have S0 := hHeld
          have fB : ((z.alloc (.cells (frC (128 + S.A) 8 d0 d1 rg i0 i1 i2 i3 i4 false) 40)).drew).heap[z.heap.size]? = some (.cells (frC (128 + S.A) 8 d0 d1 rg i0 i1 i2 i3 i4 false) 40 (0, 0)) := at11 _ _ _ rfl
          obtain ⟨g, o, cap, w2, rr, hO, hg, hk⟩ := Own.append (w := (z.alloc (.cells (frC (128 + S.A) 8 d0 d1 rg i0 i1 i2 i3 i4 false) 40)).drew) (ty := 64) Try.underlying64 hi9 hz9 hy9 hb9 rfl (by decide) ((HZ.out.row).same (fun g hg => (Below.heap_alloc _ _ _ ((HZ.out.row).lt g hg)))) ⟨z.heap.size, 0, none⟩ 1 1 (x.L S.A) rfl (fun j u hu => by rw [add_at, Nat.zero_add, cell_of_row _ _ j _ _ _ fB]; rw [XL.out] at hu; simpa using hu) (fun u hu => by rw [XL.out] at hu; exact (Array.all_eq_true_iff_forall_mem.1 (frC_one (128 + S.A) 8 d0 d1 rg i0 i1 i2 i3 i4 false)) u (by simpa using hu)) (by decide) (by have := HL.out; omega) (by decide)
          refine wp_app_by _ _ _ rfl _ _ rfl rfl _ rr ?_
          have k2 : Kp v.ownBlock.toList z w2 := (Kp.drew (Kp.al (Kp.refl _ _) _)).trans hk
          have g2 : v.ownBlock = some g ∨ z.heap.size ≤ g := hg.imp id (fun e => by rw [e]; simp)
          refine hK.out _ _ (k2.more (by intro k hk; simp at hk ⊢; simp [hk])) (fun hHeld => ?_)
          clear hK K'
          try simp only [Act.put, gA, gS, gZ, sA, sZ, sS]
          clear hg hk rr fB S0
          refine tk 8 (.pointer (some ⟨p, 0, none⟩)) rfl (.inl ⟨by rfl, ?_⟩) ?_
          · intro w9 hSw
            try dsimp only at hSw
            go_simp
            all_goals try decide
            all_goals try assumption
            all_goals try omega
          try simp only [Act.put, gA, gS, gZ, sA, sZ, sS]
          refine tk 9 (.pointer (some ⟨p, 20, none⟩)) rfl (.inl ⟨by rfl, ?_⟩) ?_
          · intro w9 hSw
            try dsimp only at hSw
            go_simp
            all_goals try decide
            all_goals try assumption
            all_goals try omega
          try simp only [Act.put, gA, gS, gZ, sA, sZ, sS]
          refine wpAnyH_ready (rs := [10]) (by kernel_rfl) (by simp) ?_
          refine AllReadyH.cons rfl (fun K' hK => ?_) AllReadyH.nil
          rw [if_pos (by rfl)]
          simp only [gA, gS, gZ]
          have S0 := hHeld
          have PU : Hid _ := HZ.out.push x XO.out HL.out k2 hO
          have c9 : w2.cell? ⟨p, 20, none⟩ = some v := Kp.cell k2 z20 (by have := HZ.out.pv.1; simpa using this)
          have f9 : w2.frozen? ⟨p, 20, none⟩ = false := froz11 _ _ _ _ _ (k2.at (by have := HZ.out.pv.1; simpa using this) HZ.out.head)
          go_wp2_with fail
          refine hK.out _ _ (S0.set _ _ (.inl (by simp))) (fun hHeld => ?_)
          clear hK K'
          try simp only [Act.put, gA, gS, gZ, sA, sZ, sS]
          refine wpAnyH_done (by kernel_rfl) ?_ _
          have kx := hHeld
          clear hHeld
          go_wp2_with fail
          go_end0
          refine ⟨rfl, _, PU.out, ?_, ?_⟩
          · intro q hq
            cases hq
            exact g2.imp id (fun e => by show w.heap.size ≤ g; have := KZ.out.size; omega)
          · exact (Kp.of KZ.out).trans kx
    · rw [if_pos (by rfl)]
      simp only [gA, gS, gZ]
      have S0 := hHeld
      go_wp2_with fail
      refine hK.out _ _ (Below.al S0 _) (fun hHeld => ?_)
      clear hK K'
      try simp only [Act.put, gA, gS, gZ, sA, sZ, sS]
      have fF : (wr.alloc (.cells (frC 0 0 0 0 0 0 0 0 0 0 false) 40)).heap[wr.heap.size]? = some (.cells (frC 0 0 0 0 0 0 0 0 0 0 false) 40 (0, 0)) := at11 wr (.cells (frC 0 0 0 0 0 0 0 0 0 0 false) 40) (wr.heap.size) (by simp)
      have lF : Hid (y.heap.size ≤ wr.heap.size) := by show _ ≤ _; have := S0.size; omega
      clear S0
      generalize hx : ((wr.alloc (.cells (frC 0 0 0 0 0 0 0 0 0 0 false) 40)) : World) = x1_ at hHeld fF ⊢
      clear hx
      refine wpAnyH_ready (rs := [23]) (by kernel_rfl) (by simp) ?_
      refine AllReadyH.cons rfl (fun K' hK => ?_) AllReadyH.nil
      rw [if_pos (by rfl)]
      simp only [gA, gS, gZ]
      have S0 := hHeld
      go_wp2_with fail
      refine hK.out _ _ (Below.al S0 _) (fun hHeld => ?_)
      clear hK K'
      try simp only [Act.put, gA, gS, gZ, sA, sZ, sS]
      have rB := row_eight x1_ d0 d1 rg i0 i1 i2 i3 i4 X8.out
      have lB := lt_of_heap (at11 x1_ (.cells #[.int .u8 d0, .int .u8 d1, .int .u8 rg, .int .u8 i0, .int .u8 i1, .int .u8 i2, .int .u8 i3, .int .u8 i4] 5) (x1_.heap.size) rfl)
      have fF := ext11 (o := .cells #[.int .u8 d0, .int .u8 d1, .int .u8 rg, .int .u8 i0, .int .u8 i1, .int .u8 i2, .int .u8 i3, .int .u8 i4] 5) fF
      clear S0
      generalize hx : (x1_.alloc (.cells #[.int .u8 d0, .int .u8 d1, .int .u8 rg, .int .u8 i0, .int .u8 i1, .int .u8 i2, .int .u8 i3, .int .u8 i4] 5) : World) = x2_ at hHeld fF rB lB ⊢
      clear hx
      refine wpAnyH_ready (rs := [24]) (by kernel_rfl) (by simp) ?_
      refine AllReadyH.cons rfl (fun K' hK => ?_) AllReadyH.nil
      rw [if_pos (by rfl)]
      simp only [gA, gS, gZ]
      have S0 := hHeld
      go_wp2_with fail
      refine (MK.out _ _ rB).mono ?_
      rintro e wm ⟨rfl, hbm⟩
      try go_wp2_with fail
      refine hK.out _ _ (Below.andThen S0 hbm) (fun hHeld => ?_)
      clear hK K'
      try simp only [Act.put, gA, gS, gZ, sA, sZ, sS]
      have fF := blk11 hbm fF
      clear hbm rB lB
      refine tk 25 (.tuple #[frV (128 + S.A) 8 d0 d1 rg i0 i1 i2 i3 i4 false, .int .i64 0]) rfl (.inl ⟨by rfl, ?_⟩) ?_
      · intro w9 hSw
        try dsimp only at hSw
        go_simp
        all_goals try decide
        all_goals try assumption
        all_goals try omega
      try simp only [Act.put, gA, gS, gZ, sA, sZ, sS]
      refine tk 26 (frV (128 + S.A) 8 d0 d1 rg i0 i1 i2 i3 i4 false) rfl (.inl ⟨by rfl, ?_⟩) ?_
      · intro w9 hSw
        try dsimp only at hSw
        go_simp
        all_goals try decide
        all_goals try assumption
        all_goals try omega
      try simp only [Act.put, gA, gS, gZ, sA, sZ, sS]
      refine tk 27 (.int .i64 0) rfl (.inl ⟨by rfl, ?_⟩) ?_
      · intro w9 hSw
        try dsimp only at hSw
        go_simp
        all_goals try decide
        all_goals try assumption
        all_goals try omega
      try simp only [Act.put, gA, gS, gZ, sA, sZ, sS]
      refine wpAnyH_ready (rs := [29]) (by kernel_rfl) (by simp) ?_
      refine AllReadyH.cons rfl (fun K' hK => ?_) AllReadyH.nil
      rw [if_pos (by rfl)]
      simp only [gA, gS, gZ]
      have S0 := hHeld
      refine wp_store_row 40 (.tmp 6) (.tmp 34) rfl (wr.heap.size) (frC (128 + S.A) 8 d0 d1 rg i0 i1 i2 i3 i4 false) rfl rfl 40 _ fF infoF rfl (frC_one _ _ _ _ _ _ _ _ _ _ _) ?_
      refine hK.out _ _ (below_setRow S0 lF.out _) (fun hHeld => ?_)
      clear hK K'
      try simp only [Act.put, gA, gS, gZ, sA, sZ, sS]
      have fG := setRow_heap _ _ _ (frC (128 + S.A) 8 d0 d1 rg i0 i1 i2 i3 i4 false) _ _ fF
      clear fF S0
      generalize hx : (wm.setRow (wr.heap.size) (frC (128 + S.A) 8 d0 d1 rg i0 i1 i2 i3 i4 false) : World) = z at hHeld fG ⊢
      clear hx
      refine tk 30 (.int .i64 0) rfl (.inl ⟨by rfl, ?_⟩) ?_
      · intro w9 hSw
        try dsimp only at hSw
        go_simp
        all_goals try decide
        all_goals try assumption
        all_goals try omega
      try simp only [Act.put, gA, gS, gZ, sA, sZ, sS]
      refine wpAnyH_done (by kernel_rfl) ?_ _
      obtain ⟨BF, hBF⟩ : ∃ b, Hid (b = wr.heap.size) := ⟨_, rfl⟩
      have LF : Hid (y.heap.size ≤ BF) := by show _ ≤ _; rw [hBF.out]; exact lF.out
      rw [← hBF.out] at fG ⊢
      clear hBF lF
      have KZ : Hid (Below w.heap.size w z) := Below.trans HY.out (hHeld.mono lY.out)
      have HZ : Hid (IsE z p m v S) := HE.out.next KZ.out
      clear hHeld kp0 kI0 kI1 kI2 kI3 kI4 V1 V2 V2' V3 V4 Y1 RG MK X8
      go_wp2_with fail
      have z20 := HZ.out.c20
      have lz := HZ.out.lt
      obtain ⟨i9, hi9, hz9, hy9, hb9⟩ := info_parts infoFr
      refine wp_region_held_drew (S := fun x1 => Kp (fpE p m v) z x1) (by kernel_rfl) (Kp.drew (Kp.refl _ _)) (fun hHeld => ?_)
      refine tk 0 (.pointer (some ⟨p, 0, none⟩)) rfl (.inl ⟨by rfl, ?_⟩) ?_
      · intro w9 hSw
        try dsimp only at hSw
        go_simp
        all_goals try decide
        all_goals try assumption
        all_goals try omega
      try simp only [Act.put, gA, gS, gZ, sA, sZ, sS]
      refine tk 1 (.pointer (some ⟨p, 0, none⟩)) rfl (.inl ⟨by rfl, ?_⟩) ?_
      · intro w9 hSw
        try dsimp only at hSw
        go_simp
        all_goals try decide
        all_goals try assumption
        all_goals try omega
      try simp only [Act.put, gA, gS, gZ, sA, sZ, sS]
      refine tk 2 (.pointer (some ⟨p, 0, none⟩)) rfl (.inl ⟨by rfl, ?_⟩) ?_
      · intro w9 hSw
        try dsimp only at hSw
        go_simp
        all_goals try decide
        all_goals try assumption
        all_goals try omega
      try simp only [Act.put, gA, gS, gZ, sA, sZ, sS]
      refine tk 3 (.pointer (some ⟨p, 20, none⟩)) rfl (.inl ⟨by rfl, ?_⟩) ?_
      · intro w9 hSw
        try dsimp only at hSw
        go_simp
        all_goals try decide
        all_goals try assumption
        all_goals try omega
      try simp only [Act.put, gA, gS, gZ, sA, sZ, sS]
      refine tk 5 (frV (128 + S.A) 8 d0 d1 rg i0 i1 i2 i3 i4 false) rfl (.inl ⟨by rfl, ?_⟩) ?_
      · intro w9 hSw
        try dsimp only at hSw
        exact ex_load_by 40 (.tmp 6) rfl _ _ rfl (loadF _ _ _ _ _ _ _ _ _ _ _ _ _ (Kp.at hSw (by intro hm; have := HE.out.inh _ hm; have := lY.out; have := LF.out; omega) fG))
      try simp only [Act.put, gA, gS, gZ, sA, sZ, sS]
      refine wpAnyH_ready (rs := [4, 6]) (by kernel_rfl) (by simp) ?_
      refine AllReadyH.cons rfl (fun K' hK => ?_) (AllReadyH.cons rfl (fun K' hK => ?_) AllReadyH.nil)
      · rw [if_pos (by rfl)]
        simp only [gA, gS, gZ]
        have S0 := hHeld
        go_wp2_with fail
        refine hK.out _ _ (S0) (fun hHeld => ?_)
        clear hK K'
        try simp only [Act.put, gA, gS, gZ, sA, sZ, sS]
        clear S0
        refine wpAnyH_ready (rs := [6]) (by kernel_rfl) (by simp) ?_
        refine AllReadyH.cons rfl (fun K' hK => ?_) AllReadyH.nil
        rw [if_pos (by rfl)]
        simp only [gA, gS, gZ]
        have S0 := hHeld
        go_wp2_with fail
        refine hK.out _ _ (Kp.al S0 _) (fun hHeld => ?_)
        clear hK K'
        try simp only [Act.put, gA, gS, gZ, sA, sZ, sS]
        refine wpAnyH_ready (rs := [7]) (by kernel_rfl) (by simp) ?_
        refine AllReadyH.cons rfl (fun K' hK => ?_) AllReadyH.nil
        rw [if_pos (by rfl)]
        simp only [gA, gS, gZ]
        have S0 := hHeld
        have fB : ((z.alloc (.cells (frC (128 + S.A) 8 d0 d1 rg i0 i1 i2 i3 i4 false) 40)).drew).heap[z.heap.size]? = some (.cells (frC (128 + S.A) 8 d0 d1 rg i0 i1 i2 i3 i4 false) 40 (0, 0)) := at11 _ _ _ rfl
        obtain ⟨g, o, cap, w2, rr, hO, hg, hk⟩ := Own.append (w := (z.alloc (.cells (frC (128 + S.A) 8 d0 d1 rg i0 i1 i2 i3 i4 false) 40)).drew) (ty := 64) Try.underlying64 hi9 hz9 hy9 hb9 rfl (by decide) ((HZ.out.row).same (fun g hg => (Below.heap_alloc _ _ _ ((HZ.out.row).lt g hg)))) ⟨z.heap.size, 0, none⟩ 1 1 (x.L S.A) rfl (fun j u hu => by rw [add_at, Nat.zero_add, cell_of_row _ _ j _ _ _ fB]; rw [XL.out] at hu; simpa using hu) (fun u hu => by rw [XL.out] at hu; exact (Array.all_eq_true_iff_forall_mem.1 (frC_one (128 + S.A) 8 d0 d1 rg i0 i1 i2 i3 i4 false)) u (by simpa using hu)) (by decide) (by have := HL.out; omega) (by decide)
        refine wp_app_by _ _ _ rfl _ _ rfl rfl _ rr ?_
        have k2 : Kp v.ownBlock.toList z w2 := (Kp.drew (Kp.al (Kp.refl _ _) _)).trans hk
        have g2 : v.ownBlock = some g ∨ z.heap.size ≤ g := hg.imp id (fun e => by rw [e]; simp)
        refine hK.out _ _ (k2.more (by intro k hk; simp at hk ⊢; simp [hk])) (fun hHeld => ?_)
        clear hK K'
        try simp only [Act.put, gA, gS, gZ, sA, sZ, sS]
        clear hg hk rr fB S0
        refine tk 8 (.pointer (some ⟨p, 0, none⟩)) rfl (.inl ⟨by rfl, ?_⟩) ?_
        · intro w9 hSw
          try dsimp only at hSw
          go_simp
          all_goals try decide
          all_goals try assumption
          all_goals try omega
        try simp only [Act.put, gA, gS, gZ, sA, sZ, sS]
        refine tk 9 (.pointer (some ⟨p, 20, none⟩)) rfl (.inl ⟨by rfl, ?_⟩) ?_
        · intro w9 hSw
          try dsimp only at hSw
          go_simp
          all_goals try decide
          all_goals try assumption
          all_goals try omega
        try simp only [Act.put, gA, gS, gZ, sA, sZ, sS]
        refine wpAnyH_ready (rs := [10]) (by kernel_rfl) (by simp) ?_
        refine AllReadyH.cons rfl (fun K' hK => ?_) AllReadyH.nil
        rw [if_pos (by rfl)]
        simp only [gA, gS, gZ]
        have S0 := hHeld
        have PU : Hid _ := HZ.out.push x XO.out HL.out k2 hO
        have c9 : w2.cell? ⟨p, 20, none⟩ = some v := Kp.cell k2 z20 (by have := HZ.out.pv.1; simpa using this)
        have f9 : w2.frozen? ⟨p, 20, none⟩ = false := froz11 _ _ _ _ _ (k2.at (by have := HZ.out.pv.1; simpa using this) HZ.out.head)
        go_wp2_with fail
        refine hK.out _ _ (S0.set _ _ (.inl (by simp))) (fun hHeld => ?_)
        clear hK K'
        try simp only [Act.put, gA, gS, gZ, sA, sZ, sS]
        refine wpAnyH_done (by kernel_rfl) ?_ _
        have kx := hHeld
        clear hHeld
        go_wp2_with fail
        go_end0
        refine ⟨rfl, _, PU.out, ?_, ?_⟩
        · intro q hq
          cases hq
          exact g2.imp id (fun e => by show w.heap.size ≤ g; have := KZ.out.size; omega)
        · exact (Kp.of KZ.out).trans kx
      · rw [if_pos (by rfl)]
        simp only [gA, gS, gZ]
        have S0 := hHeld
        go_wp2_with fail
        refine hK.out _ _ (Kp.al S0 _) (fun hHeld => ?_)
        clear hK K'
        try simp only [Act.put, gA, gS, gZ, sA, sZ, sS]
        refine wpAnyH_ready (rs := [4]) (by kernel_rfl) (by simp) ?_
        refine AllReadyH.cons rfl (fun K' hK => ?_) AllReadyH.nil
        rw [if_pos (by rfl)]
        simp only [gA, gS, gZ]
        have S0 := hHeld
        go_wp2_with fail
        refine hK.out _ _ (S0) (fun hHeld => ?_)
        clear hK K'
        try simp only [Act.put, gA, gS, gZ, sA, sZ, sS]
        clear S0
        refine wpAnyH_ready (rs := [7]) (by kernel_rfl) (by simp) ?_
        refine AllReadyH.cons rfl (fun K' hK => ?_) AllReadyH.nil
        rw [if_pos (by rfl)]
        simp only [gA, gS, gZ]
        have S0 := hHeld
        have fB : ((z.alloc (.cells (frC (128 + S.A) 8 d0 d1 rg i0 i1 i2 i3 i4 false) 40)).drew).heap[z.heap.size]? = some (.cells (frC (128 + S.A) 8 d0 d1 rg i0 i1 i2 i3 i4 false) 40 (0, 0)) := at11 _ _ _ rfl
        obtain ⟨g, o, cap, w2, rr, hO, hg, hk⟩ := Own.append (w := (z.alloc (.cells (frC (128 + S.A) 8 d0 d1 rg i0 i1 i2 i3 i4 false) 40)).drew) (ty := 64) Try.underlying64 hi9 hz9 hy9 hb9 rfl (by decide) ((HZ.out.row).same (fun g hg => (Below.heap_alloc _ _ _ ((HZ.out.row).lt g hg)))) ⟨z.heap.size, 0, none⟩ 1 1 (x.L S.A) rfl (fun j u hu => by rw [add_at, Nat.zero_add, cell_of_row _ _ j _ _ _ fB]; rw [XL.out] at hu; simpa using hu) (fun u hu => by rw [XL.out] at hu; exact (Array.all_eq_true_iff_forall_mem.1 (frC_one (128 + S.A) 8 d0 d1 rg i0 i1 i2 i3 i4 false)) u (by simpa using hu)) (by decide) (by have := HL.out; omega) (by decide)
        refine wp_app_by _ _ _ rfl _ _ rfl rfl _ rr ?_
        have k2 : Kp v.ownBlock.toList z w2 := (Kp.drew (Kp.al (Kp.refl _ _) _)).trans hk
        have g2 : v.ownBlock = some g ∨ z.heap.size ≤ g := hg.imp id (fun e => by rw [e]; simp)
        refine hK.out _ _ (k2.more (by intro k hk; simp at hk ⊢; simp [hk])) (fun hHeld => ?_)
        clear hK K'
        try simp only [Act.put, gA, gS, gZ, sA, sZ, sS]
        clear hg hk rr fB S0
        refine tk 8 (.pointer (some ⟨p, 0, none⟩)) rfl (.inl ⟨by rfl, ?_⟩) ?_
        · intro w9 hSw
          try dsimp only at hSw
          go_simp
          all_goals try decide
          all_goals try assumption
          all_goals try omega
        try simp only [Act.put, gA, gS, gZ, sA, sZ, sS]
        refine tk 9 (.pointer (some ⟨p, 20, none⟩)) rfl (.inl ⟨by rfl, ?_⟩) ?_
        · intro w9 hSw
          try dsimp only at hSw
          go_simp
          all_goals try decide
          all_goals try assumption
          all_goals try omega
        try simp only [Act.put, gA, gS, gZ, sA, sZ, sS]
        refine wpAnyH_ready (rs := [10]) (by kernel_rfl) (by simp) ?_
        refine AllReadyH.cons rfl (fun K' hK => ?_) AllReadyH.nil
        rw [if_pos (by rfl)]
        simp only [gA, gS, gZ]
        have S0 := hHeld
        have PU : Hid _ := HZ.out.push x XO.out HL.out k2 hO
        have c9 : w2.cell? ⟨p, 20, none⟩ = some v := Kp.cell k2 z20 (by have := HZ.out.pv.1; simpa using this)
        have f9 : w2.frozen? ⟨p, 20, none⟩ = false := froz11 _ _ _ _ _ (k2.at (by have := HZ.out.pv.1; simpa using this) HZ.out.head)
        go_wp2_with fail
        refine hK.out _ _ (S0.set _ _ (.inl (by simp))) (fun hHeld => ?_)
        clear hK K'
        try simp only [Act.put, gA, gS, gZ, sA, sZ, sS]
        refine wpAnyH_done (by kernel_rfl) ?_ _
        have kx := hHeld
        clear hHeld
        go_wp2_with fail
        go_end0
        refine ⟨rfl, _, PU.out, ?_, ?_⟩
        · intro q hq
          cases hq
          exact g2.imp id (fun e => by show w.heap.size ≤ g; have := KZ.out.size; omega)
        · exact (Kp.of KZ.out).trans kx
  · rw [if_pos (by rfl)]
    simp only [gA, gS, gZ]
    have S0 := hHeld
    go_wp2_with fail
    refine hK.out _ _ (Below.al S0 _) (fun hHeld => ?_)
    clear hK K'
    try simp only [Act.put, gA, gS, gZ, sA, sZ, sS]
    have fF : ((y.alloc (.cells (frC 0 0 0 0 0 0 0 0 0 0 false) 40)).drew).heap[y.heap.size]? = some (.cells (frC 0 0 0 0 0 0 0 0 0 0 false) 40 (0, 0)) := at11 y (.cells (frC 0 0 0 0 0 0 0 0 0 0 false) 40) (y.heap.size) (by simp)
    have lF : Hid (y.heap.size ≤ y.heap.size) := by show _ ≤ _; exact Nat.le_refl _
    clear S0
    generalize hx : ((y.alloc (.cells (frC 0 0 0 0 0 0 0 0 0 0 false) 40)).drew : World) = x1_ at hHeld fF ⊢
    clear hx
    refine wpAnyH_ready (rs := [12]) (by kernel_rfl) (by simp) ?_
    refine AllReadyH.cons rfl (fun K' hK => ?_) AllReadyH.nil
    rw [if_pos (by rfl)]
    simp only [gA, gS, gZ]
    have S0 := hHeld
    go_wp2_with fail
    refine (RG.out _ (Below.trans HY.out (S0.mono lY.out))).mono ?_
    rintro e wr ⟨rfl, hbr⟩
    try go_wp2_with fail
    refine hK.out _ _ (Below.andThen S0 hbr) (fun hHeld => ?_)
    clear hK K'
    try simp only [Act.put, gA, gS, gZ, sA, sZ, sS]
    have fF := blk11 hbr fF
    clear hbr
    refine wpAnyH_ready (rs := [23]) (by kernel_rfl) (by simp) ?_
    refine AllReadyH.cons rfl (fun K' hK => ?_) AllReadyH.nil
    rw [if_pos (by rfl)]
    simp only [gA, gS, gZ]
    have S0 := hHeld
    go_wp2_with fail
    refine hK.out _ _ (Below.al S0 _) (fun hHeld => ?_)
    clear hK K'
    try simp only [Act.put, gA, gS, gZ, sA, sZ, sS]
    have rB := row_eight wr d0 d1 rg i0 i1 i2 i3 i4 X8.out
    have lB := lt_of_heap (at11 wr (.cells #[.int .u8 d0, .int .u8 d1, .int .u8 rg, .int .u8 i0, .int .u8 i1, .int .u8 i2, .int .u8 i3, .int .u8 i4] 5) (wr.heap.size) rfl)
    have fF := ext11 (o := .cells #[.int .u8 d0, .int .u8 d1, .int .u8 rg, .int .u8 i0, .int .u8 i1, .int .u8 i2, .int .u8 i3, .int .u8 i4] 5) fF
    clear S0
    generalize hx : (wr.alloc (.cells #[.int .u8 d0, .int .u8 d1, .int .u8 rg, .int .u8 i0, .int .u8 i1, .int .u8 i2, .int .u8 i3, .int .u8 i4] 5) : World) = x2_ at hHeld fF rB lB ⊢
    clear hx
    refine wpAnyH_ready (rs := [24]) (by kernel_rfl) (by simp) ?_
    refine AllReadyH.cons rfl (fun K' hK => ?_) AllReadyH.nil
    rw [if_pos (by rfl)]
    simp only [gA, gS, gZ]
    have S0 := hHeld
    go_wp2_with fail
    refine (MK.out _ _ rB).mono ?_
    rintro e wm ⟨rfl, hbm⟩
    try go_wp2_with fail
    refine hK.out _ _ (Below.andThen S0 hbm) (fun hHeld => ?_)
    clear hK K'
    try simp only [Act.put, gA, gS, gZ, sA, sZ, sS]
    have fF := blk11 hbm fF
    clear hbm rB lB
    refine tk 25 (.tuple #[frV (128 + S.A) 8 d0 d1 rg i0 i1 i2 i3 i4 false, .int .i64 0]) rfl (.inl ⟨by rfl, ?_⟩) ?_
    · intro w9 hSw
      try dsimp only at hSw
      go_simp
      all_goals try decide
      all_goals try assumption
      all_goals try omega
    try simp only [Act.put, gA, gS, gZ, sA, sZ, sS]
    refine tk 26 (frV (128 + S.A) 8 d0 d1 rg i0 i1 i2 i3 i4 false) rfl (.inl ⟨by rfl, ?_⟩) ?_
    · intro w9 hSw
      try dsimp only at hSw
      go_simp
      all_goals try decide
      all_goals try assumption
      all_goals try omega
    try simp only [Act.put, gA, gS, gZ, sA, sZ, sS]
    refine tk 27 (.int .i64 0) rfl (.inl ⟨by rfl, ?_⟩) ?_
    · intro w9 hSw
      try dsimp only at hSw
      go_simp
      all_goals try decide
      all_goals try assumption
      all_goals try omega
    try simp only [Act.put, gA, gS, gZ, sA, sZ, sS]
    refine wpAnyH_ready (rs := [29]) (by kernel_rfl) (by simp) ?_
    refine AllReadyH.cons rfl (fun K' hK => ?_) AllReadyH.nil
    rw [if_pos (by rfl)]
    simp only [gA, gS, gZ]
    have S0 := hHeld
    refine wp_store_row 40 (.tmp 6) (.tmp 34) rfl (y.heap.size) (frC (128 + S.A) 8 d0 d1 rg i0 i1 i2 i3 i4 false) rfl rfl 40 _ fF infoF rfl (frC_one _ _ _ _ _ _ _ _ _ _ _) ?_
    refine hK.out _ _ (below_setRow S0 lF.out _) (fun hHeld => ?_)
    clear hK K'
    try simp only [Act.put, gA, gS, gZ, sA, sZ, sS]
    have fG := setRow_heap _ _ _ (frC (128 + S.A) 8 d0 d1 rg i0 i1 i2 i3 i4 false) _ _ fF
    clear fF S0
    generalize hx : (wm.setRow (y.heap.size) (frC (128 + S.A) 8 d0 d1 rg i0 i1 i2 i3 i4 false) : World) = z at hHeld fG ⊢
    clear hx
    refine tk 30 (.int .i64 0) rfl (.inl ⟨by rfl, ?_⟩) ?_
    · intro w9 hSw
      try dsimp only at hSw
      go_simp
      all_goals try decide
      all_goals try assumption
      all_goals try omega
    try simp only [Act.put, gA, gS, gZ, sA, sZ, sS]
    refine wpAnyH_done (by kernel_rfl) ?_ _
    obtain ⟨BF, hBF⟩ : ∃ b, Hid (b = y.heap.size) := ⟨_, rfl⟩
    have LF : Hid (y.heap.size ≤ BF) := by show _ ≤ _; rw [hBF.out]; exact lF.out
    rw [← hBF.out] at fG ⊢
    clear hBF lF
    have KZ : Hid (Below w.heap.size w z) := Below.trans HY.out (hHeld.mono lY.out)
    have HZ : Hid (IsE z p m v S) := HE.out.next KZ.out
    clear hHeld kp0 kI0 kI1 kI2 kI3 kI4 V1 V2 V2' V3 V4 Y1 RG MK X8
    go_wp2_with fail
    have z20 := HZ.out.c20
    have lz := HZ.out.lt
    obtain ⟨i9, hi9, hz9, hy9, hb9⟩ := info_parts infoFr
    refine wp_region_held_drew (S := fun x1 => Kp (fpE p m v) z x1) (by kernel_rfl) (Kp.drew (Kp.refl _ _)) (fun hHeld => ?_)
    refine tk 0 (.pointer (some ⟨p, 0, none⟩)) rfl (.inl ⟨by rfl, ?_⟩) ?_
    · intro w9 hSw
      try dsimp only at hSw
      go_simp
      all_goals try decide
      all_goals try assumption
      all_goals try omega
    try simp only [Act.put, gA, gS, gZ, sA, sZ, sS]
    refine tk 1 (.pointer (some ⟨p, 0, none⟩)) rfl (.inl ⟨by rfl, ?_⟩) ?_
    · intro w9 hSw
      try dsimp only at hSw
      go_simp
      all_goals try decide
      all_goals try assumption
      all_goals try omega
    try simp only [Act.put, gA, gS, gZ, sA, sZ, sS]
    refine tk 2 (.pointer (some ⟨p, 0, none⟩)) rfl (.inl ⟨by rfl, ?_⟩) ?_
    · intro w9 hSw
      try dsimp only at hSw
      go_simp
      all_goals try decide
      all_goals try assumption
      all_goals try omega
    try simp only [Act.put, gA, gS, gZ, sA, sZ, sS]
    refine tk 3 (.pointer (some ⟨p, 20, none⟩)) rfl (.inl ⟨by rfl, ?_⟩) ?_
    · intro w9 hSw
      try dsimp only at hSw
      go_simp
      all_goals try decide
      all_goals try assumption
      all_goals try omega
    try simp only [Act.put, gA, gS, gZ, sA, sZ, sS]
    refine tk 5 (frV (128 + S.A) 8 d0 d1 rg i0 i1 i2 i3 i4 false) rfl (.inl ⟨by rfl, ?_⟩) ?_
    · intro w9 hSw
      try dsimp only at hSw
      exact ex_load_by 40 (.tmp 6) rfl _ _ rfl (loadF _ _ _ _ _ _ _ _ _ _ _ _ _ (Kp.at hSw (by intro hm; have := HE.out.inh _ hm; have := lY.out; have := LF.out; omega) fG))
    try simp only [Act.put, gA, gS, gZ, sA, sZ, sS]
    refine wpAnyH_ready (rs := [4, 6]) (by kernel_rfl) (by simp) ?_
    refine AllReadyH.cons rfl (fun K' hK => ?_) (AllReadyH.cons rfl (fun K' hK => ?_) AllReadyH.nil)
    · rw [if_pos (by rfl)]
      simp only [gA, gS, gZ]
      have S0 := hHeld
      go_wp2_with fail
      refine hK.out _ _ (S0) (fun hHeld => ?_)
      clear hK K'
      try simp only [Act.put, gA, gS, gZ, sA, sZ, sS]
      clear S0
      refine wpAnyH_ready (rs := [6]) (by kernel_rfl) (by simp) ?_
      refine AllReadyH.cons rfl (fun K' hK => ?_) AllReadyH.nil
      rw [if_pos (by rfl)]
      simp only [gA, gS, gZ]
      have S0 := hHeld
      go_wp2_with fail
      refine hK.out _ _ (Kp.al S0 _) (fun hHeld => ?_)
      clear hK K'
      try simp only [Act.put, gA, gS, gZ, sA, sZ, sS]
      refine wpAnyH_ready (rs := [7]) (by kernel_rfl) (by simp) ?_
      refine AllReadyH.cons rfl (fun K' hK => ?_) AllReadyH.nil
      rw [if_pos (by rfl)]
      simp only [gA, gS, gZ]
      have S0 := hHeld
      have fB : ((z.alloc (.cells (frC (128 + S.A) 8 d0 d1 rg i0 i1 i2 i3 i4 false) 40)).drew).heap[z.heap.size]? = some (.cells (frC (128 + S.A) 8 d0 d1 rg i0 i1 i2 i3 i4 false) 40 (0, 0)) := at11 _ _ _ rfl
      obtain ⟨g, o, cap, w2, rr, hO, hg, hk⟩ := Own.append (w := (z.alloc (.cells (frC (128 + S.A) 8 d0 d1 rg i0 i1 i2 i3 i4 false) 40)).drew) (ty := 64) Try.underlying64 hi9 hz9 hy9 hb9 rfl (by decide) ((HZ.out.row).same (fun g hg => (Below.heap_alloc _ _ _ ((HZ.out.row).lt g hg)))) ⟨z.heap.size, 0, none⟩ 1 1 (x.L S.A) rfl (fun j u hu => by rw [add_at, Nat.zero_add, cell_of_row _ _ j _ _ _ fB]; rw [XL.out] at hu; simpa using hu) (fun u hu => by rw [XL.out] at hu; exact (Array.all_eq_true_iff_forall_mem.1 (frC_one (128 + S.A) 8 d0 d1 rg i0 i1 i2 i3 i4 false)) u (by simpa using hu)) (by decide) (by have := HL.out; omega) (by decide)
      refine wp_app_by _ _ _ rfl _ _ rfl rfl _ rr ?_
      have k2 : Kp v.ownBlock.toList z w2 := (Kp.drew (Kp.al (Kp.refl _ _) _)).trans hk
      have g2 : v.ownBlock = some g ∨ z.heap.size ≤ g := hg.imp id (fun e => by rw [e]; simp)
      refine hK.out _ _ (k2.more (by intro k hk; simp at hk ⊢; simp [hk])) (fun hHeld => ?_)
      clear hK K'
      try simp only [Act.put, gA, gS, gZ, sA, sZ, sS]
      clear hg hk rr fB S0
      refine tk 8 (.pointer (some ⟨p, 0, none⟩)) rfl (.inl ⟨by rfl, ?_⟩) ?_
      · intro w9 hSw
        try dsimp only at hSw
        go_simp
        all_goals try decide
        all_goals try assumption
        all_goals try omega
      try simp only [Act.put, gA, gS, gZ, sA, sZ, sS]
      refine tk 9 (.pointer (some ⟨p, 20, none⟩)) rfl (.inl ⟨by rfl, ?_⟩) ?_
      · intro w9 hSw
        try dsimp only at hSw
        go_simp
        all_goals try decide
        all_goals try assumption
        all_goals try omega
      try simp only [Act.put, gA, gS, gZ, sA, sZ, sS]
      refine wpAnyH_ready (rs := [10]) (by kernel_rfl) (by simp) ?_
      refine AllReadyH.cons rfl (fun K' hK => ?_) AllReadyH.nil
      rw [if_pos (by rfl)]
      simp only [gA, gS, gZ]
      have S0 := hHeld
      have PU : Hid _ := HZ.out.push x XO.out HL.out k2 hO
      have c9 : w2.cell? ⟨p, 20, none⟩ = some v := Kp.cell k2 z20 (by have := HZ.out.pv.1; simpa using this)
      have f9 : w2.frozen? ⟨p, 20, none⟩ = false := froz11 _ _ _ _ _ (k2.at (by have := HZ.out.pv.1; simpa using this) HZ.out.head)
      go_wp2_with fail
      refine hK.out _ _ (S0.set _ _ (.inl (by simp))) (fun hHeld => ?_)
      clear hK K'
      try simp only [Act.put, gA, gS, gZ, sA, sZ, sS]
      refine wpAnyH_done (by kernel_rfl) ?_ _
      have kx := hHeld
      clear hHeld
      go_wp2_with fail
      go_end0
      refine ⟨rfl, _, PU.out, ?_, ?_⟩
      · intro q hq
        cases hq
        exact g2.imp id (fun e => by show w.heap.size ≤ g; have := KZ.out.size; omega)
      · exact (Kp.of KZ.out).trans kx
    · rw [if_pos (by rfl)]
      simp only [gA, gS, gZ]
      have S0 := hHeld
      go_wp2_with fail
      refine hK.out _ _ (Kp.al S0 _) (fun hHeld => ?_)
      clear hK K'
      try simp only [Act.put, gA, gS, gZ, sA, sZ, sS]
      refine wpAnyH_ready (rs := [4]) (by kernel_rfl) (by simp) ?_
      refine AllReadyH.cons rfl (fun K' hK => ?_) AllReadyH.nil
      rw [if_pos (by rfl)]
      simp only [gA, gS, gZ]
      have S0 := hHeld
      go_wp2_with fail
      refine hK.out _ _ (S0) (fun hHeld => ?_)
      clear hK K'
      try simp only [Act.put, gA, gS, gZ, sA, sZ, sS]
      clear S0
      refine wpAnyH_ready (rs := [7]) (by kernel_rfl) (by simp) ?_
      refine AllReadyH.cons rfl (fun K' hK => ?_) AllReadyH.nil
      rw [if_pos (by rfl)]
      simp only [gA, gS, gZ]
      have S0 := hHeld
      have fB : ((z.alloc (.cells (frC (128 + S.A) 8 d0 d1 rg i0 i1 i2 i3 i4 false) 40)).drew).heap[z.heap.size]? = some (.cells (frC (128 + S.A) 8 d0 d1 rg i0 i1 i2 i3 i4 false) 40 (0, 0)) := at11 _ _ _ rfl
      obtain ⟨g, o, cap, w2, rr, hO, hg, hk⟩ := Own.append (w := (z.alloc (.cells (frC (128 + S.A) 8 d0 d1 rg i0 i1 i2 i3 i4 false) 40)).drew) (ty := 64) Try.underlying64 hi9 hz9 hy9 hb9 rfl (by decide) ((HZ.out.row).same (fun g hg => (Below.heap_alloc _ _ _ ((HZ.out.row).lt g hg)))) ⟨z.heap.size, 0, none⟩ 1 1 (x.L S.A) rfl (fun j u hu => by rw [add_at, Nat.zero_add, cell_of_row _ _ j _ _ _ fB]; rw [XL.out] at hu; simpa using hu) (fun u hu => by rw [XL.out] at hu; exact (Array.all_eq_true_iff_forall_mem.1 (frC_one (128 + S.A) 8 d0 d1 rg i0 i1 i2 i3 i4 false)) u (by simpa using hu)) (by decide) (by have := HL.out; omega) (by decide)
      refine wp_app_by _ _ _ rfl _ _ rfl rfl _ rr ?_
      have k2 : Kp v.ownBlock.toList z w2 := (Kp.drew (Kp.al (Kp.refl _ _) _)).trans hk
      have g2 : v.ownBlock = some g ∨ z.heap.size ≤ g := hg.imp id (fun e => by rw [e]; simp)
      refine hK.out _ _ (k2.more (by intro k hk; simp at hk ⊢; simp [hk])) (fun hHeld => ?_)
      clear hK K'
      try simp only [Act.put, gA, gS, gZ, sA, sZ, sS]
      clear hg hk rr fB S0
      refine tk 8 (.pointer (some ⟨p, 0, none⟩)) rfl (.inl ⟨by rfl, ?_⟩) ?_
      · intro w9 hSw
        try dsimp only at hSw
        go_simp
        all_goals try decide
        all_goals try assumption
        all_goals try omega
      try simp only [Act.put, gA, gS, gZ, sA, sZ, sS]
      refine tk 9 (.pointer (some ⟨p, 20, none⟩)) rfl (.inl ⟨by rfl, ?_⟩) ?_
      · intro w9 hSw
        try dsimp only at hSw
        go_simp
        all_goals try decide
        all_goals try assumption
        all_goals try omega
      try simp only [Act.put, gA, gS, gZ, sA, sZ, sS]
      refine wpAnyH_ready (rs := [10]) (by kernel_rfl) (by simp) ?_
      refine AllReadyH.cons rfl (fun K' hK => ?_) AllReadyH.nil
      rw [if_pos (by rfl)]
      simp only [gA, gS, gZ]
      have S0 := hHeld
      have PU : Hid _ := HZ.out.push x XO.out HL.out k2 hO
      have c9 : w2.cell? ⟨p, 20, none⟩ = some v := Kp.cell k2 z20 (by have := HZ.out.pv.1; simpa using this)
      have f9 : w2.frozen? ⟨p, 20, none⟩ = false := froz11 _ _ _ _ _ (k2.at (by have := HZ.out.pv.1; simpa using this) HZ.out.head)
      go_wp2_with fail
      refine hK.out _ _ (S0.set _ _ (.inl (by simp))) (fun hHeld => ?_)
      clear hK K'
      try simp only [Act.put, gA, gS, gZ, sA, sZ, sS]
      refine wpAnyH_done (by kernel_rfl) ?_ _
      have kx := hHeld
      clear hHeld
      go_wp2_with fail
      go_end0
      refine ⟨rfl, _, PU.out, ?_, ?_⟩
      · intro q hq
        cases hq
        exact g2.imp id (fun e => by show w.heap.size ≤ g; have := KZ.out.size; omega)
      · exact (Kp.of KZ.out).trans kx
#print axioms wait_any
end Go.Proofs.Ytnbdnmfnmnboiaa
