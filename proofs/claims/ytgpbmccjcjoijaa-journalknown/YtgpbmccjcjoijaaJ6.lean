/-
  The walk of decoded.
-/
import Derived.Test.YtgpbmccjcjoijaaJ5
import Derived.Lib.EndianBits
namespace Go.Proofs.Ytgpbmccjcjoijaa
open Go.RowKit

theorem or_i64 {y x : Int} (hy0 : 0 ≤ y) (hy : y < 256) (hx0 : 0 ≤ x) (hx1 : x < 256) : bits .or .i64 y (x * 256) = y + 256 * x := by
  have := bits_join_low .i64 62 (by decide) (fun n h0 h1 => by rw [IntKind.wrap_i64]; omega) 8 y (x * 256) hy0 (by omega) (by omega) (by omega) (by omega) (by omega)
  rw [this]; omega
theorem Kp.drewN {S : List Nat} {a b : World} (h : Kp S a b) (n : Nat) : Kp S a (b.drewN n) := ⟨h.os, h.tape, h.output, h.size, h.block⟩
/-- Zeros for a record. -/
abbrev rec0 : Value := .agg #[.int .u8 0, .int .u8 0, .slice none 0 0]
/-- What decoded tells. -/
def Dec (w' : World) (a : Option Addr) (b : List Int) (e : Ending) : Prop :=
  ∃ v0 v1 : Int, ∃ a' : Option Addr, ∃ n' c' : Nat, e = .returned (.tuple #[.agg #[.int .u8 v0, .int .u8 v1, .slice a' n' c'], .bool (dec b).isSome]) ∧
    ∀ r, dec b = some r → v0 = r.kind ∧ v1 = r.grp ∧ n' = r.bs.length ∧ Row w' a' n' r.bs ∧ ∃ bl off off', a = some ⟨bl, off, none⟩ ∧ a' = some ⟨bl, off', none⟩
theorem Dec.no {w' : World} {a : Option Addr} {b : List Int} {e : Ending} (h : dec b = none) (v0 v1 : Int) (a' : Option Addr) (n' c' : Nat) (he : e = .returned (.tuple #[.agg #[.int .u8 v0, .int .u8 v1, .slice a' n' c'], .bool false])) : Dec w' a b e :=
  ⟨v0, v1, a', n', c', by rw [h]; exact he, fun r hr => by rw [h] at hr; cases hr⟩
theorem Row.sub {w : World} {bl off len : Nat} {zs : List Int} (h : Row w (some ⟨bl, off, none⟩) len zs) (o n : Nat) (hn : o + n ≤ len) : Row w (some ⟨bl, off + o, none⟩) n ((zs.drop o).take n) where
  size := by have := h.size; simp; omega
  oct := (h.oct.drop _).take _
  at_ := fun hp => ⟨bl, off + o, rfl, fun i hi => by
    obtain ⟨b', off', e, hc⟩ := h.at_ (by omega)
    cases e
    rw [Nat.add_assoc, hc (o + i) (by omega)]
    simp [List.getD_eq_getElem?_getD, List.getElem?_drop, hi]⟩
theorem u8_inj {x y : Int} (hx : 0 ≤ x ∧ x < 256) (hy : 0 ≤ y ∧ y < 256) (h : UInt8.ofNat x.toNat = UInt8.ofNat y.toNat) : x = y := by
  have := congrArg UInt8.toNat h
  simp only [UInt8.toNat_ofNat'] at this
  omega
theorem strOf_eq {l m : List Int} (h1 : Oct l) (h2 : Oct m) : Lib.bytesOf l = Lib.bytesOf m ↔ l = m := by
  refine ⟨fun h => ?_, fun h => by rw [h]⟩
  induction l generalizing m with
  | nil => cases m with
    | nil => rfl
    | cons y m => simp [Lib.bytesOf] at h
  | cons x l ih => cases m with
    | nil => simp [Lib.bytesOf] at h
    | cons y m =>
      simp only [Lib.bytesOf, List.map_cons, List.cons.injEq] at h
      rw [u8_inj (h1 x (by simp)) (h2 y (by simp)) h.1, ih (fun n hn => h1 n (by simp [hn])) (fun n hn => h2 n (by simp [hn])) h.2]
theorem strOf_inj {l m : List Int} (h1 : Oct l) (h2 : Oct m) : (Lib.bytesOf l == Lib.bytesOf m) = decide (l = m) := by
  rw [Bool.eq_iff_iff, beq_iff_eq, decide_eq_true_iff]
  exact strOf_eq h1 h2

set_option linter.unusedSimpArgs false in
set_option maxHeartbeats 4000000 in
set_option maxRecDepth 100000 in
theorem decoded_any (a : Option Addr) (len cap : Nat) (b : List Int) (w : World) (hr : Row w a len b) (hl : len ≤ 1000000) (hc : len ≤ cap) :
    Calls Try.prog 63 #[.slice a len cap] w fun e w' => Dec w' a b e ∧ Below w.heap.size w w' := by
  have hz := hr.size
  have hl' : (len : Int) ≤ 1000000 := by omega
  by_cases h12 : len < 12
  · have D0 : Hid (dec b = none) := dec_short (by omega)
    have h12' : (len : Int) < 12 := by omega
    clear hr
    go_enter Try.func63, Try.ntmps63
    go_wp2_with fail
    exact bodyPost_ret (v := .tuple #[rec0, .bool false]) (by simp [results, Try.results63, go_sem]) rfl ⟨Dec.no D0.out 0 0 none 0 0 rfl, by repeat (first | exact Below.refl _ _ | refine Below.al ?_ _ | refine Below.setCell ?_ (by simp) _)⟩
  · have h12' : ¬ (len : Int) < 12 := by omega
    obtain ⟨bl, off, rfl, hcA⟩ := hr.at_ (by omega)
    have x0 := hcA 0 (by omega)
    have x1 := hcA 1 (by omega)
    have x2 := hcA 2 (by omega)
    have x3 := hcA 3 (by omega)
    obtain ⟨o00, o01⟩ := hr.oct.getD 0
    obtain ⟨o10, o11⟩ := hr.oct.getD 1
    obtain ⟨o20, o21⟩ := hr.oct.getD 2
    obtain ⟨o30, o31⟩ := hr.oct.getD 3
    have OR := or_i64 o20 o21 o30 o31
    have hN : Hid ((nOf b : Int) = b.getD 2 0 + 256 * b.getD 3 0) := by show _ = _; unfold nOf; omega
    have HR : Hid (Row w (some ⟨bl, off, none⟩) len b) := hr
    have hn1 : nOf b ≤ 65535 := by have := hN.out; omega
    have RA : Hid (recAt b = ⟨b.getD 0 0, b.getD 1 0, (b.drop 8).take (nOf b)⟩) := rfl
    obtain ⟨n, hn⟩ : ∃ n, Hid (nOf b = n) := ⟨_, rfl⟩
    rw [hn.out] at hN hn1 RA
    have DD : Hid (dec b = if 12 ≤ b.length ∧ b.getD 1 0 < 16 ∧ n ≤ 4096 ∧ rm n ≤ b.length ∧ enc (recAt b) = b.take (rm n) then some (recAt b) else none) := by show _ = _; rw [← hn.out]; rfl
    have OR2 : bits .or .i64 (b.getD 2 0) (b.getD 3 0 * 256) = (n : Int) := by rw [OR, hN.out]
    have hbl : bl < w.heap.size := hr.old (by omega) bl off rfl
    have nw0 := World.new_ne w _ x0
    have nw1 := World.new_ne w _ x1
    have nw2 := World.new_ne w _ x2
    have nw3 := World.new_ne w _ x3
    clear OR hcA hr hN hn
    simp only [Nat.add_zero] at x0
    obtain ⟨y0, e0⟩ : ∃ y, Hid (b.getD 0 0 = y) := ⟨_, rfl⟩
    obtain ⟨y1, e1⟩ : ∃ y, Hid (b.getD 1 0 = y) := ⟨_, rfl⟩
    rw [e0.out] at x0 o00 o01 RA
    rw [e1.out] at x1 o10 o11 RA DD
    generalize b.getD 2 0 = y2 at *
    generalize b.getD 3 0 = y3 at *
    have gn : (n : Int) ≤ 65535 := by omega
    have W1 : y3 * 256 < 65536 := by omega
    have RM := fun W => room_any n (by omega) W
    obtain ⟨R, hR⟩ : ∃ R, Hid (rm n = R) := ⟨_, rfl⟩
    rw [hR.out] at RM DD
    have e12 : n + 12 ≤ R ∧ R < n + 16 := by have := rm_ge n; have := rm_lt n; rw [hR.out] at *; omega
    have gR : (R : Int) ≤ 70000 := by omega
    have gR0 : (0 : Int) ≤ R := by omega
    have l0 : (0 : Int) < len := by omega
    have l1 : (1 : Int) < len := by omega
    have l2 : (2 : Int) < len := by omega
    have l3 : (3 : Int) < len := by omega
    by_cases c1 : 16 ≤ y1
    · have D0 : Hid (dec b = none) := by show _ = _; rw [DD.out, if_neg (fun e => by omega)]
      clear HR DD RA
      go_enter Try.func63, Try.ntmps63
      go_wp2_with fail
      go_quiet (fail)
      go_wp2_with fail
      exact bodyPost_ret (v := .tuple #[rec0, .bool false]) (by simp [results, Try.results63, go_sem]) rfl ⟨Dec.no D0.out 0 0 none 0 0 rfl, (((((Kp.refl [] w).al _).drewN _).set _ _ (.inr (by simp))).set _ _ (.inr (by simp)) |>.set _ _ (.inr (by simp))).bel⟩
    by_cases c2 : 4096 < n
    · have c2 : (4096 : Int) < n := by omega
      have D0 : Hid (dec b = none) := by show _ = _; rw [DD.out, if_neg (fun e => by omega)]
      clear HR DD RA
      go_enter Try.func63, Try.ntmps63
      go_wp2_with fail
      go_quiet (fail)
      go_wp2_with fail
      exact bodyPost_ret (v := .tuple #[rec0, .bool false]) (by simp [results, Try.results63, go_sem]) rfl ⟨Dec.no D0.out 0 0 none 0 0 rfl, (((((Kp.refl [] w).al _).drewN _).set _ _ (.inr (by simp))).set _ _ (.inr (by simp)) |>.set _ _ (.inr (by simp))).bel⟩
    have c2 : ¬ (4096 : Int) < n := by omega
    by_cases c3 : len < R
    · have c3 : (len : Int) < R := by omega
      have D0 : Hid (dec b = none) := by show _ = _; rw [DD.out, if_neg (fun e => by omega)]
      clear HR DD RA
      go_enter Try.func63, Try.ntmps63
      go_wp2_with fail
      go_quiet (fail)
      go_wp2_with fail
      with_reducible refine (RM _).mono ?_
      rintro e w1 ⟨rfl, rfl⟩
      clear RM
      go_wp2_with fail
      exact bodyPost_ret (v := .tuple #[rec0, .bool false]) (by simp [results, Try.results63, go_sem]) rfl ⟨Dec.no D0.out 0 0 none 0 0 rfl, (((((Kp.refl [] w).al _).drewN _).set _ _ (.inr (by simp))).set _ _ (.inr (by simp)) |>.set _ _ (.inr (by simp))).bel⟩
    have c3 : ¬ (len : Int) < R := by omega
    have DD2 : Hid (dec b = if enc (recAt b) = b.take R then some (recAt b) else none) := by
      show _ = _
      rw [DD.out]
      by_cases e : enc (recAt b) = b.take R
      · rw [if_pos ⟨by omega, by omega, by omega, by omega, e⟩, if_pos e]
      · rw [if_neg (fun h => e h.2.2.2.2), if_neg e]
    have n8 : (8 : Int) + n ≤ len := by omega
    have n8' : (8 : Int) ≤ 8 + n := by omega
    have n8c : (8 : Int) + n ≤ cap := by omega
    go_enter Try.func63, Try.ntmps63
    go_wp2_with fail
    go_quiet (fail)
    have KX : Kp [] w ((w.alloc (.cells #[.int .u8 0, .int .u8 0, .slice none 0 0] 79)).drewN nq) := ((Kp.refl [] w).al _).drewN _
    have z0 := KX.cell x0 (by simp)
    have z1 := KX.cell x1 (by simp)
    have rb : ((w.alloc (.cells #[.int .u8 0, .int .u8 0, .slice none 0 0] 79)).drewN nq).heap[w.heap.size]? = some (.cells #[.int .u8 0, .int .u8 0, .slice none 0 0] 79 (0, 0)) := heap_alloc_new w _
    generalize (w.alloc (.cells #[.int .u8 0, .int .u8 0, .slice none 0 0] 79)).drewN nq = X at *
    have RBX := lt_of_heap rb
    have RB : Hid (X.heap[w.heap.size]? = some (.cells #[.int .u8 0, .int .u8 0, .slice none 0 0] 79 (0, 0))) := rb
    have HKX : Hid (Kp [] w X) := KX
    generalize hBX : w.heap.size = rx at *
    have HBX : Hid (w.heap.size = rx) := hBX
    clear hBX x0 x1 x2 x3 KX rb nw0 nw1 nw2 nw3
    have nw0 := World.new_ne X _ z0
    go_wp2_with fail
    with_reducible refine (RM _).mono ?_
    rintro e X ⟨rfl, rfl⟩
    have za0 := fun o => ((Kp.refl [] X).al o).cell z0 (by simp)
    have za1 := fun o => ((Kp.refl [] X).al o).cell z1 (by simp)
    go_wp2_with fail
    go_region
    have KV : Kp [] w (X.alloc (.cells #[.int .u8 y0, .int .u8 y1, .slice (some ⟨bl, off + 8, none⟩) n (cap - 8)] 79)).drew := (HKX.out.al _).drew
    have vb : (X.alloc (.cells #[.int .u8 y0, .int .u8 y1, .slice (some ⟨bl, off + 8, none⟩) n (cap - 8)] 79)).drew.heap[X.heap.size]? = some (.cells #[.int .u8 y0, .int .u8 y1, .slice (some ⟨bl, off + 8, none⟩) n (cap - 8)] 79 (0, 0)) := heap_alloc_new X _
    have vr : (X.alloc (.cells #[.int .u8 y0, .int .u8 y1, .slice (some ⟨bl, off + 8, none⟩) n (cap - 8)] 79)).drew.heap[rx]? = some (.cells #[.int .u8 0, .int .u8 0, .slice none 0 0] 79 (0, 0)) := (((Kp.refl [] X).al _).drew.block rx RBX (by simp)).trans RB.out
    generalize (X.alloc (.cells #[.int .u8 y0, .int .u8 y1, .slice (some ⟨bl, off + 8, none⟩) n (cap - 8)] 79)).drew = V at *
    generalize hxb : X.heap.size = xb at *
    clear hxb
    have RS := HR.out.sub 8 n (by omega)
    have RO := RS.oct
    have HL := RS.size
    obtain ⟨bs, hbs⟩ : ∃ bs, Hid ((b.drop 8).take n = bs) := ⟨_, rfl⟩
    rw [hbs.out] at RS RO RA HL
    have OK : (⟨y0, y1, bs⟩ : Rec).Ok := ⟨o00, o01, o10, by show y1 < 16; omega, RO, by show bs.length ≤ 4096; omega⟩
    have RV : Row V.drew (some ⟨bl, off + 8, none⟩) n bs := (RS.next KV.bel).drew
    have EN := encoded_any y0 y1 bs OK (some ⟨bl, off + 8, none⟩) n (cap - 8) V.drew RV
    rw [hR.out] at EN
    have v0 : V.cell? ⟨xb, 0, none⟩ = some (.int .u8 y0) := by rw [cell_of_row V _ _ _ _ _ vb]; rfl
    have v1 : V.cell? ⟨xb, 1, none⟩ = some (.int .u8 y1) := by rw [cell_of_row V _ _ _ _ _ vb]; rfl
    have v2 : V.cell? ⟨xb, 2, none⟩ = some (.slice (some ⟨bl, off + 8, none⟩) n (cap - 8)) := by rw [cell_of_row V _ _ _ _ _ vb]; rfl
    have r0 : V.cell? ⟨rx, 0, none⟩ = some (.int .u8 0) := by rw [cell_of_row V _ _ _ _ _ vr]; rfl
    have r1 : V.cell? ⟨rx, 1, none⟩ = some (.int .u8 0) := by rw [cell_of_row V _ _ _ _ _ vr]; rfl
    have r2 : V.cell? ⟨rx, 2, none⟩ = some (.slice none 0 0) := by rw [cell_of_row V _ _ _ _ _ vr]; rfl
    have VB : Hid (V.heap[xb]? = some (.cells #[.int .u8 y0, .int .u8 y1, .slice (some ⟨bl, off + 8, none⟩) n (cap - 8)] 79 (0, 0))) := vb
    have VR : Hid (V.heap[rx]? = some (.cells #[.int .u8 0, .int .u8 0, .slice none 0 0] 79 (0, 0))) := vr
    have HKV : Hid (Kp [] w V) := KV
    have gRc : (R : Int) ≤ cap := by omega
    have RS0 := RS
    clear KV vb vr za0 za1 z0 z1 HKX RB RBX RO RV
    go_wp2_with fail
    refine wp_region_held_drew (S := fun x => x.cell? ⟨xb, 0, none⟩ = some (.int .u8 y0) ∧ x.cell? ⟨xb, 1, none⟩ = some (.int .u8 y1) ∧ x.cell? ⟨xb, 2, none⟩ = some (.slice (some ⟨bl, off + 8, none⟩) n (cap - 8))) (by kernel_rfl) (⟨v0, v1, v2⟩) (fun hHeld => ?_)
    refine wpAnyH_take (i := 0) (v := (.agg #[.int .u8 y0, .int .u8 y1, .slice (some ⟨bl, off + 8, none⟩) n (cap - 8)])) rfl (by kernel_rfl) (by kernel_rfl) (by kernel_rfl) (fun _ _ _ h => h) (Or.inl ⟨by rfl, ?_⟩) (by assumption) ?_
    · intro w9 hSw
      try dsimp only at hSw
      go_simp
      all_goals try decide
      all_goals try assumption
      all_goals try omega
    try simp only [Act.put, List.getElem_toArray, List.getElem_cons_succ, List.getElem_cons_zero, List.setIfInBounds_toArray, List.set_cons_zero, List.set_cons_succ]
    refine wpAnyH_take (i := 1) (v := (.agg #[.int .u8 y0, .int .u8 y1, .slice (some ⟨bl, off + 8, none⟩) n (cap - 8)])) rfl (by kernel_rfl) (by kernel_rfl) (by kernel_rfl) (fun _ _ _ h => h) (Or.inl ⟨by rfl, ?_⟩) (by assumption) ?_
    · intro w9 hSw
      try dsimp only at hSw
      go_simp
      all_goals try decide
      all_goals try assumption
      all_goals try omega
    try simp only [Act.put, List.getElem_toArray, List.getElem_cons_succ, List.getElem_cons_zero, List.setIfInBounds_toArray, List.set_cons_zero, List.set_cons_succ]
    refine wpAnyH_take (i := 3) (v := (.slice (some ⟨bl, off, none⟩) len cap)) rfl (by kernel_rfl) (by kernel_rfl) (by kernel_rfl) (fun _ _ _ h => h) (Or.inl ⟨by rfl, ?_⟩) (by assumption) ?_
    · intro w9 hSw
      try dsimp only at hSw
      go_simp
      all_goals try decide
      all_goals try assumption
      all_goals try omega
    try simp only [Act.put, List.getElem_toArray, List.getElem_cons_succ, List.getElem_cons_zero, List.setIfInBounds_toArray, List.set_cons_zero, List.set_cons_succ]
    refine wpAnyH_take (i := 4) (v := (.int .i64 n)) rfl (by kernel_rfl) (by kernel_rfl) (by kernel_rfl) (fun _ _ _ h => h) (Or.inl ⟨by rfl, ?_⟩) (by assumption) ?_
    · intro w9 hSw
      try dsimp only at hSw
      go_simp
      all_goals try decide
      all_goals try assumption
      all_goals try omega
    try simp only [Act.put, List.getElem_toArray, List.getElem_cons_succ, List.getElem_cons_zero, List.setIfInBounds_toArray, List.set_cons_zero, List.set_cons_succ]
    refine wpAnyH_ready (rs := [2]) (by kernel_rfl) (by simp) ?_
    refine AllReadyH.cons rfl (fun K' hK => ?_) AllReadyH.nil
    rw [if_pos (by rfl)]
    simp only [List.getElem_toArray, List.getElem_cons_succ, List.getElem_cons_zero]
    go_wp2_with fail
    refine (EN).mono ?_
    rintro e Y ⟨⟨g, rfl, hg, hB⟩, hbY⟩
    have KY : Kp [] V Y := (Kp.refl [] V).drew.trans (Kp.of hbY)
    have u0 := KY.cell v0 (by simp)
    have u1 := KY.cell v1 (by simp)
    have u2 := KY.cell v2 (by simp)
    try go_wp2_with fail
    refine hK.out _ _ (⟨u0, u1, u2⟩) (fun hHeld => ?_)
    clear hK K'
    try simp only [Act.put, List.getElem_toArray, List.getElem_cons_succ, List.getElem_cons_zero, List.setIfInBounds_toArray, List.set_cons_zero, List.set_cons_succ]
    refine wpAnyH_ready (rs := [5]) (by kernel_rfl) (by simp) ?_
    refine AllReadyH.cons rfl (fun K' hK => ?_) AllReadyH.nil
    rw [if_pos (by rfl)]
    simp only [List.getElem_toArray, List.getElem_cons_succ, List.getElem_cons_zero]
    go_wp2_with fail
    refine (RM _).mono ?_
    rintro e Y ⟨rfl, rfl⟩
    try go_wp2_with fail
    refine hK.out _ _ (⟨u0, u1, u2⟩) (fun hHeld => ?_)
    clear hK K'
    try simp only [Act.put, List.getElem_toArray, List.getElem_cons_succ, List.getElem_cons_zero, List.setIfInBounds_toArray, List.set_cons_zero, List.set_cons_succ]
    refine wpAnyH_take (i := 6) (v := (.slice (some ⟨bl, off, none⟩) R cap)) rfl (by kernel_rfl) (by kernel_rfl) (by kernel_rfl) (fun _ _ _ h => h) (Or.inl ⟨by rfl, ?_⟩) (by assumption) ?_
    · intro w9 hSw
      try dsimp only at hSw
      go_simp
      all_goals try decide
      all_goals try assumption
      all_goals try omega
    try simp only [Act.put, List.getElem_toArray, List.getElem_cons_succ, List.getElem_cons_zero, List.setIfInBounds_toArray, List.set_cons_zero, List.set_cons_succ]
    have KW : Kp [] w Y := HKV.out.trans KY
    have Y1 : Row Y (some ⟨g, 0, none⟩) R (enc ⟨y0, y1, bs⟩) := by
      have := hB.row (enc_oct OK) 0 R (by rw [enc_len]; show 0 + R ≤ rm bs.length; rw [HL, hR.out]; omega)
      rw [List.drop_zero, List.take_of_length_le (by rw [enc_len]; show rm bs.length ≤ R; rw [HL, hR.out]; omega)] at this
      exact this
    have Y2 : Row Y (some ⟨bl, off, none⟩) R (b.take R) := by
      have := (HR.out.next KW.bel).sub 0 R (by omega)
      rw [List.drop_zero, Nat.add_zero] at this
      exact this
    have EQ := Try.bytes_Equal (.slice (some ⟨g, 0, none⟩) R R) (.slice (some ⟨bl, off, none⟩) R cap) _ _ Y (Y1.str R) (Y2.str cap)
    rw [strOf_inj (enc_oct OK) Y2.oct] at EQ
    have q0 := KY.cell r0 (by simp)
    have q1 := KY.cell r1 (by simp)
    have q2 := KY.cell r2 (by simp)
    have HY : Hid (Y.heap[rx]? = some (.cells #[.int .u8 0, .int .u8 0, .slice none 0 0] 79 (0, 0))) := (KY.block rx (lt_of_heap VR.out) (by simp)).trans VR.out
    have f0 := frozen_of_row Y rx 0 _ _ HY.out
    have f1 := frozen_of_row Y rx 1 _ _ HY.out
    have f2 := frozen_of_row Y rx 2 _ _ HY.out
    have hrxb : xb ≠ rx := fun e => by have a := VB.out; have c := VR.out; rw [e, c] at a; simp at a
    have SS : (fun x : World => x.cell? ⟨xb, 0, none⟩ = some (.int .u8 y0) ∧ x.cell? ⟨xb, 1, none⟩ = some (.int .u8 y1) ∧ x.cell? ⟨xb, 2, none⟩ = some (.slice (some ⟨bl, off + 8, none⟩) n (cap - 8))) (((Y.setCell ⟨rx, 0, none⟩ (.int .u8 y0)).setCell ⟨rx, 1, none⟩ (.int .u8 y1)).setCell ⟨rx, 2, none⟩ (.slice (some ⟨bl, off + 8, none⟩) n (cap - 8))) := by
      simp [go_sem, World.cell?_setCell_far, hrxb, u0, u1, u2]
    have KF : Hid (Kp [] w (((Y.setCell ⟨rx, 0, none⟩ (.int .u8 y0)).setCell ⟨rx, 1, none⟩ (.int .u8 y1)).setCell ⟨rx, 2, none⟩ (.slice (some ⟨bl, off + 8, none⟩) n (cap - 8)))) := by
      have e := HBX.out
      exact ((KW.set _ _ (.inr (by simp; omega))).set _ _ (.inr (by simp; omega))).set _ _ (.inr (by simp; omega))
    have HY2 : Hid (Row Y (some ⟨bl, off + 8, none⟩) n bs) := RS.next KW.bel
    obtain ⟨Q, hQ⟩ : ∃ Q, Hid (decide (enc ⟨y0, y1, bs⟩ = b.take R) = Q) := ⟨_, rfl⟩
    rw [hQ.out] at EQ
    have FIN : Hid (Dec (((Y.setCell ⟨rx, 0, none⟩ (.int .u8 y0)).setCell ⟨rx, 1, none⟩ (.int .u8 y1)).setCell ⟨rx, 2, none⟩ (.slice (some ⟨bl, off + 8, none⟩) n (cap - 8))) (some ⟨bl, off, none⟩) b (.returned (.tuple #[.agg #[.int .u8 y0, .int .u8 y1, .slice (some ⟨bl, off + 8, none⟩) n (cap - 8)], .bool Q]))) := by
      refine ⟨y0, y1, some ⟨bl, off + 8, none⟩, n, cap - 8, ?_, fun r hr => ?_⟩
      · have e : (dec b).isSome = Q := by
          rw [DD2.out, RA.out, ← hQ.out]
          by_cases e : enc ⟨y0, y1, bs⟩ = b.take R
          · rw [if_pos e, decide_eq_true e]; rfl
          · rw [if_neg e, decide_eq_false e]; rfl
        rw [e]
      · rw [DD2.out, RA.out] at hr
        by_cases e : enc ⟨y0, y1, bs⟩ = b.take R
        · rw [if_pos e] at hr
          obtain rfl := Option.some.inj hr
          exact ⟨rfl, rfl, HL.symm, RS.next KF.out.bel, _, _, _, rfl, rfl⟩
        · rw [if_neg e] at hr; cases hr
    refine wpAnyH_ready (rs := [7]) (by kernel_rfl) (by simp) ?_
    refine AllReadyH.cons rfl (fun K' hK => ?_) AllReadyH.nil
    rw [if_pos (by rfl)]
    simp only [List.getElem_toArray, List.getElem_cons_succ, List.getElem_cons_zero]
    go_wp2_with fail
    refine (EQ).mono ?_
    rintro e Y ⟨rfl, rfl⟩
    try go_wp2_with fail
    refine hK.out _ _ (⟨u0, u1, u2⟩) (fun hHeld => ?_)
    clear hK K'
    try simp only [Act.put, List.getElem_toArray, List.getElem_cons_succ, List.getElem_cons_zero, List.setIfInBounds_toArray, List.set_cons_zero, List.set_cons_succ]
    refine wpAnyH_ready (rs := [8]) (by kernel_rfl) (by simp) ?_
    refine AllReadyH.cons rfl (fun K' hK => ?_) AllReadyH.nil
    rw [if_pos (by rfl)]
    simp only [List.getElem_toArray, List.getElem_cons_succ, List.getElem_cons_zero]
    go_wp2_with fail
    refine hK.out _ _ (SS) (fun hHeld => ?_)
    clear hK K'
    try simp only [Act.put, List.getElem_toArray, List.getElem_cons_succ, List.getElem_cons_zero, List.setIfInBounds_toArray, List.set_cons_zero, List.set_cons_succ]
    refine wpAnyH_take (i := 9) (v := (.bool Q)) rfl (by kernel_rfl) (by kernel_rfl) (by kernel_rfl) (fun _ _ _ h => h) (Or.inl ⟨by rfl, ?_⟩) (by assumption) ?_
    · intro w9 hSw
      try dsimp only at hSw
      go_simp
      all_goals try decide
      all_goals try assumption
      all_goals try omega
    try simp only [Act.put, List.getElem_toArray, List.getElem_cons_succ, List.getElem_cons_zero, List.setIfInBounds_toArray, List.set_cons_zero, List.set_cons_succ]
    refine wpAnyH_done (by kernel_rfl) ?_ _
    clear SS HY HR DD DD2 RA hQ
    go_wp2_with fail
    exact bodyPost_ret (v := .tuple #[.agg #[.int .u8 y0, .int .u8 y1, .slice (some ⟨bl, off + 8, none⟩) n (cap - 8)], .bool Q]) (by simp [results, Try.results63, go_sem, q0, q1, q2]) rfl ⟨FIN.out, KF.out.bel⟩
#print axioms decoded_any
end Go.Proofs.Ytgpbmccjcjoijaa
