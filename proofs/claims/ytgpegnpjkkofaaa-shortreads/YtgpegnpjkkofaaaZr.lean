/-
  ShortReads returns true.
-/
import Derived.Test.YtgpegnpjkkofaaaQf1
import Derived.Test.YtgpegnpjkkofaaaZb
import Derived.Deep.DeepCutAuto
namespace Go.Proofs.Ytgpegnpjkkofaaa
open Go.RowKit

theorem command_ask' (y : B8) (oky : y.Ok) (w : World) : Calls Try.prog 16 #[y.v, .bool false] w (RCPost w (askedP y)) := by
  cases h : askedP y with
  | none =>
    have := command_ask y oky none (fun i e => by cases e) (fun _ => h) (fun i e => by cases e) w
    rw [h] at this; exact this
  | some z =>
    obtain ⟨hp, _⟩ := askP_of y z h
    obtain ⟨⟨f, bt, n, h1, h2, h3, h4, h5, h6⟩, hk1, hk2⟩ := found_askP z y hp
    have hk : ((z.k.toNat : Nat) : Int) = z.k := by omega
    have := command_ask y oky (some (z.k.toNat, f, bt, n)) (fun i e => by cases e; exact ⟨by omega, by omega, h1, h2, h3, h4, h5⟩) (fun e => by cases e) (fun i e => by cases e; show _ = some (cand ((z.k.toNat : Nat) : Int) y f bt n); rw [hk, h6]; exact h) w
    rw [h] at this; exact this
theorem command_ans' (y : B8) (oky : y.Ok) (w : World) : Calls Try.prog 16 #[y.v, .bool true] w (RCPost w (answeredP y)) := by
  cases h : answeredP y with
  | none =>
    have := command_ans y oky none (fun i e => by cases e) (fun _ => h) (fun i e => by cases e) w
    rw [h] at this; exact this
  | some z =>
    obtain ⟨hp, _⟩ := ansP_of y z h
    obtain ⟨⟨f, bt, n, h1, h2, h3, h4, h5, h6⟩, hk1, hk2⟩ := found_ansP z y hp
    have hk : ((z.k.toNat : Nat) : Int) = z.k := by omega
    have := command_ans y oky (some (z.k.toNat, f, bt, n)) (fun i e => by cases e; exact ⟨by omega, by omega, h1, h2, h3, h4, h5⟩) (fun e => by cases e) (fun i e => by cases e; show _ = some (cand ((z.k.toNat : Nat) : Int) y f bt n); rw [hk, h6]; exact h) w
    rw [h] at this; exact this
/-- What is told of bytes, by the program and by the document: the same command and error. -/
theorem cgen (O : Option Cm) : ∃ (z : Cm) (ec : Int), (∀ W r w', CPost W O r w' → ∃ a cap, r = .returned (.tuple #[z.v a z.d.length cap, .int .i64 ec]) ∧ Told W w' a z.d.length cap z.d ∧ Below W.heap.size W w') ∧
    (∀ W r w', RCPost W O r w' → ∃ a cap, r = .returned (.tuple #[z.v a z.d.length cap, .int .i64 ec]) ∧ Row w' a z.d.length z.d ∧ (0 < z.d.length → ∀ b off, a = some ⟨b, off, none⟩ → W.heap.size ≤ b) ∧ Below W.heap.size W w') := by
  cases O with
  | none =>
    refine ⟨⟨0, 0, 0, false, 0, false, [], false, false, false, 0, 0, 0, 0, 0⟩, 11, fun W r w' h => ⟨none, 0, h.1, ⟨row_nil _, Nat.le_refl _, by decide, fun h => absurd h (by decide)⟩, h.2⟩, fun W r w' h => ⟨none, 0, h.1, row_nil _, fun h => absurd h (by decide), h.2⟩⟩
  | some z => exact ⟨z, 0, fun W r w' h => h, fun W r w' h => h⟩
/-- Bytes that are written over: nothing else turns. -/
structure LW (a : Option Addr) (len : Nat) (x x' : World) : Prop where
  os : x'.os = x.os
  tape : x'.tape = x.tape
  output : x'.output = x.output
  size : x'.heap.size = x.heap.size
  far : ∀ j, (0 < len → ∀ b off, a = some ⟨b, off, none⟩ → j ≠ b) → x'.heap[j]? = x.heap[j]?
  own : 0 < len → ∃ g, a = some ⟨g, 0, none⟩ ∧ ∀ i, i < len → (∃ v, x'.cell? ⟨g, i, none⟩ = some (.int .u8 v)) ∧ x'.frozen? ⟨g, i, none⟩ = false
theorem LW.start {a : Option Addr} {len cap : Nat} {zs : List Int} {w x : World} (h : Told w x a len cap zs) : LW a len x x :=
  ⟨rfl, rfl, rfl, rfl, fun _ _ => rfl, fun hp => by
    obtain ⟨g, e, _, hz⟩ := h.own hp
    obtain ⟨b, off, e', hc⟩ := h.row.at_ hp
    rw [e] at e'
    cases e'
    exact ⟨g, e, fun i hi => ⟨⟨_, by have := hc i hi; rw [Nat.zero_add] at this; exact this⟩, hz i hi⟩⟩⟩
theorem LW.step {g : Nat} {len i : Nat} {x x' : World} (h : LW (some ⟨g, 0, none⟩) len x x') (hi : i < len) : LW (some ⟨g, 0, none⟩) len x (x'.setCell ⟨g, i, none⟩ (.int .u8 99)) :=
  ⟨h.os, h.tape, h.output, by simp [h.size], fun j hj => (Below.heap_setCell _ _ _ _ (hj (by omega) g 0 rfl)).trans (h.far j hj), fun hp => by
    obtain ⟨g', e, hc⟩ := h.own hp
    cases e
    refine ⟨_, rfl, fun j hj => ⟨?_, by simp [(hc j hj).2]⟩⟩
    obtain ⟨v, hv⟩ := (hc j hj).1
    by_cases hji : j = i
    · subst hji; exact ⟨99, World.cell?_setCell_same _ _ _ hv⟩
    · exact ⟨v, by rw [World.cell?_setCell_other _ _ _ _ (by intro e; cases e; exact hji rfl)]; exact hv⟩⟩
theorem blkr {W W' : World} {j : Nat} {v : Obj} (hb : Below W.heap.size W W') (h : W.heap[j]? = some v) : W'.heap[j]? = some v := (hb.block _ (Array.getElem?_eq_some_iff.1 h).1).trans h
/-- A row of another block stays. -/
theorem LW.row {a a' : Option Addr} {len len' : Nat} {zs : List Int} {x x' : World} (h : LW a len x x') (hr : Row x a' len' zs) (hne : 0 < len' → 0 < len → ∀ b off b' off', a' = some ⟨b', off', none⟩ → a = some ⟨b, off, none⟩ → b' ≠ b) : Row x' a' len' zs :=
  ⟨hr.size, hr.oct, fun hp => by
    obtain ⟨b, off, e, hc⟩ := hr.at_ hp
    exact ⟨b, off, e, fun i hi => by rw [World.cell?_of_block (w := x) (h.far b (fun hl b2 off2 e2 => hne hp hl b2 off2 b off e e2))]; exact hc i hi⟩⟩

theorem keep_all {w1 w2 w3 w4 wc : World} {o1 o2 o3 o4 : Obj} {g : Nat} (hg : g < w1.heap.size) (h2 : Below (w1.alloc o1).heap.size (w1.alloc o1) w2) (h3 : Below (w2.alloc o2).heap.size (w2.alloc o2) w3) (h4 : Below (w3.alloc o3).heap.size (w3.alloc o3) w4) (h5 : Below (w4.alloc o4).heap.size (w4.alloc o4) wc) : wc.heap[g]? = w1.heap[g]? := by
  have s2 := h2.size
  have s3 := h3.size
  have s4 := h4.size
  simp at s2 s3 s4
  rw [h5.block g (by simp; omega), Below.heap_alloc _ _ _ (by omega), h4.block g (by simp; omega), Below.heap_alloc _ _ _ (by omega), h3.block g (by simp; omega), Below.heap_alloc _ _ _ (by omega), h2.block g (by simp; omega), Below.heap_alloc _ _ _ hg]
theorem lw_below {w x x' : World} {a : Option Addr} {len N : Nat} (hb : Below w.heap.size w x) (h : LW a len x x') (hg : 0 < len → ∀ b off, a = some ⟨b, off, none⟩ → b < N ∧ w.heap.size < b) : Below w.heap.size w x' :=
  ⟨h.os.trans hb.os, h.tape.trans hb.tape, h.output.trans hb.output, by rw [h.size]; exact hb.size, fun k hk => (h.far k (fun hp b off e => by have := (hg hp b off e).2; omega)).trans (hb.block k hk)⟩

set_option linter.unusedSimpArgs false in
set_option maxHeartbeats 20000000 in
set_option maxRecDepth 100000 in
theorem shortReads_any (y : B8) (oky : y.Ok) (w : World) :
    Calls Try.prog 4 #[y.v] w fun e w' => e = .returned (.bool true) ∧ Below w.heap.size w w' := by
  have KA : Hid (∀ W, Calls Try.prog 15 #[arr8 y.b0 y.b1 y.b2 y.b3 y.b4 y.b5 y.b6 y.b7] W (CPost W (askedP y))) := fun W => asked_any y oky W
  have KC : Hid (∀ W, Calls Try.prog 16 #[arr8 y.b0 y.b1 y.b2 y.b3 y.b4 y.b5 y.b6 y.b7, .bool false] W (RCPost W (askedP y))) := fun W => command_ask' y oky W
  have KB : Hid (∀ W, Calls Try.prog 17 #[arr8 y.b0 y.b1 y.b2 y.b3 y.b4 y.b5 y.b6 y.b7] W (CPost W (answeredP y))) := fun W => answered_any y oky W
  have KD : Hid (∀ W, Calls Try.prog 16 #[arr8 y.b0 y.b1 y.b2 y.b3 y.b4 y.b5 y.b6 y.b7, .bool true] W (RCPost W (answeredP y))) := fun W => command_ans' y oky W
  generalize askedP y = O1 at KA KC
  generalize answeredP y = O2 at KB KD
  clear oky
  obtain ⟨z1, ec1, P1, Q1⟩ := cgen O1
  obtain ⟨z2, ec2, P2, Q2⟩ := cgen O2
  have G1 : Hid _ := P1
  have R1 : Hid _ := Q1
  have G2 : Hid _ := P2
  have R2 : Hid _ := Q2
  clear P1 Q1 P2 Q2
  have KS1 : Hid (∀ W a a' cap cap', Row W a z1.d.length z1.d → Row W a' z1.d.length z1.d → Calls Try.prog 18 #[z1.v a z1.d.length cap, z1.v a' z1.d.length cap'] W fun r w' => r = .returned (.bool true) ∧ ∃ o1 o2, w' = (W.alloc o1).alloc o2) := fun W a a' cap cap' h1 h2 => by
    have := same_any z1 z1 a _ cap a' _ cap' W h1 h2
    rw [decide_eq_true rfl] at this
    exact this
  have KS2 : Hid (∀ W a a' cap cap', Row W a z2.d.length z2.d → Row W a' z2.d.length z2.d → Calls Try.prog 18 #[z2.v a z2.d.length cap, z2.v a' z2.d.length cap'] W fun r w' => r = .returned (.bool true) ∧ ∃ o1 o2, w' = (W.alloc o1).alloc o2) := fun W a a' cap cap' h1 h2 => by
    have := same_any z2 z2 a _ cap a' _ cap' W h1 h2
    rw [decide_eq_true rfl] at this
    exact this
  obtain ⟨k1, i1, s1, z1, n1, q1, d1, t1, l1, c1, b1, e1, u1, m1, o1⟩ := z1
  dsimp only at G1 R1 KS1
  obtain ⟨len1, hl1⟩ : ∃ len1, d1.length = len1 := ⟨_, rfl⟩
  rw [hl1] at G1 R1 KS1
  clear hl1
  obtain ⟨k2, i2, s2, z2, n2, q2, d2, t2, l2, c2, b2, e2, u2, m2, o2⟩ := z2
  dsimp only at G2 R2 KS2
  obtain ⟨len2, hl2⟩ : ∃ len2, d2.length = len2 := ⟨_, rfl⟩
  rw [hl2] at G2 R2 KS2
  clear hl2
  obtain ⟨y0, y1, y2, y3, y4, y5, y6, y7⟩ := y
  dsimp only at KA KB KC KD ⊢
  go_enter Try.func4, Try.ntmps4
  go_wp2_with fail
  with_reducible refine (KA.out _).mono ?_
  intro r w1 hp
  obtain ⟨a1, cap1, rfl, ht1, hb⟩ := G1.out _ _ _ hp
  clear hp
  have B1 : Below w.heap.size w w1 := Below.andThen (Below.al (Below.refl _ _) _) hb
  have Y1 : w1.heap[w.heap.size]? = some (.cells (ar8 y0 y1 y2 y3 y4 y5 y6 y7) 31 (0, 0)) := blkr hb (heap_new _ _)
  have T1 : Hid (Told (w.alloc (.cells (ar8 y0 y1 y2 y3 y4 y5 y6 y7) 31)) w1 a1 len1 cap1 d1) := ht1
  have hmax : Hid (len1 ≤ maxLen) := Nat.le_trans ht1.le ht1.max
  have S11 : Row w1 a1 len1 d1 := ht1.row
  clear hb
  clear ht1
  have Y1X := ext_al (o := (.cells (cmC k1 i1 s1 z1 n1 q1 a1 len1 cap1 t1 l1 c1 b1 e1 u1 m1 o1) 29)) Y1
  have B1X := Below.al B1 (.cells (cmC k1 i1 s1 z1 n1 q1 a1 len1 cap1 t1 l1 c1 b1 e1 u1 m1 o1) 29)
  have S11X := S11.next (Below.al (Below.refl _ _) (.cells (cmC k1 i1 s1 z1 n1 q1 a1 len1 cap1 t1 l1 c1 b1 e1 u1 m1 o1) 29))
  have MA1X := heap_new w1 (.cells (cmC k1 i1 s1 z1 n1 q1 a1 len1 cap1 t1 l1 c1 b1 e1 u1 m1 o1) 29)
  go_wp2_with (refine wpList_load_by rfl 31 _ rfl _ _ rfl (load8 _ (w.heap.size) _ _ _ _ _ _ _ _ _ Y1X) ?_)
  with_reducible refine (KC.out _).mono ?_
  intro r w2 hp
  obtain ⟨a2, cap2, rfl, hr2, hf2, hb⟩ := R1.out _ _ _ hp
  clear hp
  have B2 : Below w.heap.size w w2 := Below.andThen B1X hb
  have Y2 : w2.heap[w.heap.size]? = some (.cells (ar8 y0 y1 y2 y3 y4 y5 y6 y7) 31 (0, 0)) := blkr hb Y1X
  have MA2 := blkr hb MA1X
  have S12 := S11X.next hb
  have S22 : Row w2 a2 len1 d1 := hr2
  have HB2 : Hid (Below (w1.alloc (.cells (cmC k1 i1 s1 z1 n1 q1 a1 len1 cap1 t1 l1 c1 b1 e1 u1 m1 o1) 29)).heap.size (w1.alloc (.cells (cmC k1 i1 s1 z1 n1 q1 a1 len1 cap1 t1 l1 c1 b1 e1 u1 m1 o1) 29)) w2) := hb
  clear hb
  have HF2 : Hid (0 < len1 → ∀ b off, a2 = some ⟨b, off, none⟩ → ((w1.alloc (.cells (cmC k1 i1 s1 z1 n1 q1 a1 len1 cap1 t1 l1 c1 b1 e1 u1 m1 o1) 29))).heap.size ≤ b) := hf2
  clear hr2 hf2
  have Y2X := ext_al (o := (.cells (cmC k1 i1 s1 z1 n1 q1 a2 len1 cap2 t1 l1 c1 b1 e1 u1 m1 o1) 36)) Y2
  have B2X := Below.al B2 (.cells (cmC k1 i1 s1 z1 n1 q1 a2 len1 cap2 t1 l1 c1 b1 e1 u1 m1 o1) 36)
  have MA2X := ext_al (o := (.cells (cmC k1 i1 s1 z1 n1 q1 a2 len1 cap2 t1 l1 c1 b1 e1 u1 m1 o1) 36)) MA2
  have S12X := S12.next (Below.al (Below.refl _ _) (.cells (cmC k1 i1 s1 z1 n1 q1 a2 len1 cap2 t1 l1 c1 b1 e1 u1 m1 o1) 36))
  have S22X := S22.next (Below.al (Below.refl _ _) (.cells (cmC k1 i1 s1 z1 n1 q1 a2 len1 cap2 t1 l1 c1 b1 e1 u1 m1 o1) 36))
  have MX2X := heap_new w2 (.cells (cmC k1 i1 s1 z1 n1 q1 a2 len1 cap2 t1 l1 c1 b1 e1 u1 m1 o1) 36)
  go_wp2_with (refine wpList_load_by rfl 31 _ rfl _ _ rfl (load8 _ (w.heap.size) _ _ _ _ _ _ _ _ _ Y2X) ?_)
  with_reducible refine (KB.out _).mono ?_
  intro r w3 hp
  obtain ⟨a3, cap3, rfl, ht3, hb⟩ := G2.out _ _ _ hp
  clear hp
  have B3 : Below w.heap.size w w3 := Below.andThen B2X hb
  have Y3 : w3.heap[w.heap.size]? = some (.cells (ar8 y0 y1 y2 y3 y4 y5 y6 y7) 31 (0, 0)) := blkr hb Y2X
  have MA3 := blkr hb MA2X
  have MX3 := blkr hb MX2X
  have S13 := S12X.next hb
  have S23 := S22X.next hb
  have S33 : Row w3 a3 len2 d2 := ht3.row
  have HB3 : Hid (Below (w2.alloc (.cells (cmC k1 i1 s1 z1 n1 q1 a2 len1 cap2 t1 l1 c1 b1 e1 u1 m1 o1) 36)).heap.size (w2.alloc (.cells (cmC k1 i1 s1 z1 n1 q1 a2 len1 cap2 t1 l1 c1 b1 e1 u1 m1 o1) 36)) w3) := hb
  clear hb
  clear ht3
  have Y3X := ext_al (o := (.cells (cmC k2 i2 s2 z2 n2 q2 a3 len2 cap3 t2 l2 c2 b2 e2 u2 m2 o2) 29)) Y3
  have B3X := Below.al B3 (.cells (cmC k2 i2 s2 z2 n2 q2 a3 len2 cap3 t2 l2 c2 b2 e2 u2 m2 o2) 29)
  have MA3X := ext_al (o := (.cells (cmC k2 i2 s2 z2 n2 q2 a3 len2 cap3 t2 l2 c2 b2 e2 u2 m2 o2) 29)) MA3
  have MX3X := ext_al (o := (.cells (cmC k2 i2 s2 z2 n2 q2 a3 len2 cap3 t2 l2 c2 b2 e2 u2 m2 o2) 29)) MX3
  have S13X := S13.next (Below.al (Below.refl _ _) (.cells (cmC k2 i2 s2 z2 n2 q2 a3 len2 cap3 t2 l2 c2 b2 e2 u2 m2 o2) 29))
  have S23X := S23.next (Below.al (Below.refl _ _) (.cells (cmC k2 i2 s2 z2 n2 q2 a3 len2 cap3 t2 l2 c2 b2 e2 u2 m2 o2) 29))
  have S33X := S33.next (Below.al (Below.refl _ _) (.cells (cmC k2 i2 s2 z2 n2 q2 a3 len2 cap3 t2 l2 c2 b2 e2 u2 m2 o2) 29))
  have MC3X := heap_new w3 (.cells (cmC k2 i2 s2 z2 n2 q2 a3 len2 cap3 t2 l2 c2 b2 e2 u2 m2 o2) 29)
  go_wp2_with (refine wpList_load_by rfl 31 _ rfl _ _ rfl (load8 _ (w.heap.size) _ _ _ _ _ _ _ _ _ Y3X) ?_)
  with_reducible refine (KD.out _).mono ?_
  intro r w4 hp
  obtain ⟨a4, cap4, rfl, hr4, hf4, hb⟩ := R2.out _ _ _ hp
  clear hp
  have B4 : Below w.heap.size w w4 := Below.andThen B3X hb
  have Y4 : w4.heap[w.heap.size]? = some (.cells (ar8 y0 y1 y2 y3 y4 y5 y6 y7) 31 (0, 0)) := blkr hb Y3X
  have MA4 := blkr hb MA3X
  have MX4 := blkr hb MX3X
  have MC4 := blkr hb MC3X
  have S14 := S13X.next hb
  have S24 := S23X.next hb
  have S34 := S33X.next hb
  have S44 : Row w4 a4 len2 d2 := hr4
  have HB4 : Hid (Below (w3.alloc (.cells (cmC k2 i2 s2 z2 n2 q2 a3 len2 cap3 t2 l2 c2 b2 e2 u2 m2 o2) 29)).heap.size (w3.alloc (.cells (cmC k2 i2 s2 z2 n2 q2 a3 len2 cap3 t2 l2 c2 b2 e2 u2 m2 o2) 29)) w4) := hb
  clear hb
  have HF4 : Hid (0 < len2 → ∀ b off, a4 = some ⟨b, off, none⟩ → ((w3.alloc (.cells (cmC k2 i2 s2 z2 n2 q2 a3 len2 cap3 t2 l2 c2 b2 e2 u2 m2 o2) 29))).heap.size ≤ b) := hf4
  clear hr4 hf4
  have Y4X := ext_al (o := (.cells (cmC k2 i2 s2 z2 n2 q2 a4 len2 cap4 t2 l2 c2 b2 e2 u2 m2 o2) 36)) Y4
  have B4X := Below.al B4 (.cells (cmC k2 i2 s2 z2 n2 q2 a4 len2 cap4 t2 l2 c2 b2 e2 u2 m2 o2) 36)
  have MA4X := ext_al (o := (.cells (cmC k2 i2 s2 z2 n2 q2 a4 len2 cap4 t2 l2 c2 b2 e2 u2 m2 o2) 36)) MA4
  have MX4X := ext_al (o := (.cells (cmC k2 i2 s2 z2 n2 q2 a4 len2 cap4 t2 l2 c2 b2 e2 u2 m2 o2) 36)) MX4
  have MC4X := ext_al (o := (.cells (cmC k2 i2 s2 z2 n2 q2 a4 len2 cap4 t2 l2 c2 b2 e2 u2 m2 o2) 36)) MC4
  have S14X := S14.next (Below.al (Below.refl _ _) (.cells (cmC k2 i2 s2 z2 n2 q2 a4 len2 cap4 t2 l2 c2 b2 e2 u2 m2 o2) 36))
  have S24X := S24.next (Below.al (Below.refl _ _) (.cells (cmC k2 i2 s2 z2 n2 q2 a4 len2 cap4 t2 l2 c2 b2 e2 u2 m2 o2) 36))
  have S34X := S34.next (Below.al (Below.refl _ _) (.cells (cmC k2 i2 s2 z2 n2 q2 a4 len2 cap4 t2 l2 c2 b2 e2 u2 m2 o2) 36))
  have S44X := S44.next (Below.al (Below.refl _ _) (.cells (cmC k2 i2 s2 z2 n2 q2 a4 len2 cap4 t2 l2 c2 b2 e2 u2 m2 o2) 36))
  have MY4X := heap_new w4 (.cells (cmC k2 i2 s2 z2 n2 q2 a4 len2 cap4 t2 l2 c2 b2 e2 u2 m2 o2) 36)
  have HMA : Hid ((w4.alloc (.cells (cmC k2 i2 s2 z2 n2 q2 a4 len2 cap4 t2 l2 c2 b2 e2 u2 m2 o2) 36)).heap[w1.heap.size]? = some (.cells (cmC k1 i1 s1 z1 n1 q1 a1 len1 cap1 t1 l1 c1 b1 e1 u1 m1 o1) 29 (0, 0))) := MA4X
  have HMX : Hid ((w4.alloc (.cells (cmC k2 i2 s2 z2 n2 q2 a4 len2 cap4 t2 l2 c2 b2 e2 u2 m2 o2) 36)).heap[w2.heap.size]? = some (.cells (cmC k1 i1 s1 z1 n1 q1 a2 len1 cap2 t1 l1 c1 b1 e1 u1 m1 o1) 36 (0, 0))) := MX4X
  have HMC : Hid ((w4.alloc (.cells (cmC k2 i2 s2 z2 n2 q2 a4 len2 cap4 t2 l2 c2 b2 e2 u2 m2 o2) 36)).heap[w3.heap.size]? = some (.cells (cmC k2 i2 s2 z2 n2 q2 a3 len2 cap3 t2 l2 c2 b2 e2 u2 m2 o2) 29 (0, 0))) := MC4X
  have HMY : Hid ((w4.alloc (.cells (cmC k2 i2 s2 z2 n2 q2 a4 len2 cap4 t2 l2 c2 b2 e2 u2 m2 o2) 36)).heap[w4.heap.size]? = some (.cells (cmC k2 i2 s2 z2 n2 q2 a4 len2 cap4 t2 l2 c2 b2 e2 u2 m2 o2) 36 (0, 0))) := MY4X
  have HY : Hid ((w4.alloc (.cells (cmC k2 i2 s2 z2 n2 q2 a4 len2 cap4 t2 l2 c2 b2 e2 u2 m2 o2) 36)).heap[w.heap.size]? = some (.cells (ar8 y0 y1 y2 y3 y4 y5 y6 y7) 31 (0, 0))) := Y4X
  have HB : Hid (Below w.heap.size w (w4.alloc (.cells (cmC k2 i2 s2 z2 n2 q2 a4 len2 cap4 t2 l2 c2 b2 e2 u2 m2 o2) 36))) := B4X
  have HS1 : Hid (Row (w4.alloc (.cells (cmC k2 i2 s2 z2 n2 q2 a4 len2 cap4 t2 l2 c2 b2 e2 u2 m2 o2) 36)) a1 len1 d1) := S14X
  have HS2 : Hid (Row (w4.alloc (.cells (cmC k2 i2 s2 z2 n2 q2 a4 len2 cap4 t2 l2 c2 b2 e2 u2 m2 o2) 36)) a2 len1 d1) := S24X
  have HS3 : Hid (Row (w4.alloc (.cells (cmC k2 i2 s2 z2 n2 q2 a4 len2 cap4 t2 l2 c2 b2 e2 u2 m2 o2) 36)) a3 len2 d2) := S34X
  have HS4 : Hid (Row (w4.alloc (.cells (cmC k2 i2 s2 z2 n2 q2 a4 len2 cap4 t2 l2 c2 b2 e2 u2 m2 o2) 36)) a4 len2 d2) := S44X
  have lw1 : Hid (w.heap.size < w1.heap.size) := (Array.getElem?_eq_some_iff.1 Y1).1
  have l12 : Hid (w1.heap.size < w2.heap.size) := (Array.getElem?_eq_some_iff.1 MA2).1
  have l23 : Hid (w2.heap.size < w3.heap.size) := (Array.getElem?_eq_some_iff.1 MX3).1
  clear Y1 Y1X B1 B1X MA1X S11 S11X Y2 Y2X B2 B2X MA2 MA2X MX2X S12 S12X S22 S22X Y3 Y3X B3 B3X MA3 MA3X MX3 MX3X MC3X S13 S13X S23 S23X S33 S33X Y4 Y4X B4 B4X MA4 MA4X MX4 MX4X MC4 MC4X MY4X S14 S14X S24 S24X S34 S34X S44 S44X
  go_upto_region 5 with fail
  go_cut [55] from 14 (fun sv wx => sv = .bool false ∧ Hid (Below w.heap.size w wx ∧ Below (w4.alloc (.cells (cmC k2 i2 s2 z2 n2 q2 a4 len2 cap4 t2 l2 c2 b2 e2 u2 m2 o2) 36)).heap.size (w4.alloc (.cells (cmC k2 i2 s2 z2 n2 q2 a4 len2 cap4 t2 l2 c2 b2 e2 u2 m2 o2) 36)) wx ∧ wx.heap[w1.heap.size]? = some (.cells (cmC k1 i1 s1 z1 n1 q1 a1 len1 cap1 t1 l1 c1 b1 e1 u1 m1 o1) 29 (0, 0)) ∧ wx.heap[w2.heap.size]? = some (.cells (cmC k1 i1 s1 z1 n1 q1 a2 len1 cap2 t1 l1 c1 b1 e1 u1 m1 o1) 36 (0, 0)) ∧ wx.heap[w3.heap.size]? = some (.cells (cmC k2 i2 s2 z2 n2 q2 a3 len2 cap3 t2 l2 c2 b2 e2 u2 m2 o2) 29 (0, 0)) ∧ wx.heap[w4.heap.size]? = some (.cells (cmC k2 i2 s2 z2 n2 q2 a4 len2 cap4 t2 l2 c2 b2 e2 u2 m2 o2) 36 (0, 0)) ∧ wx.heap[w.heap.size]? = some (.cells (ar8 y0 y1 y2 y3 y4 y5 y6 y7) 31 (0, 0))))
  case first =>
    as_aux_lemma =>
      go_wp2_with fail
      refine wp_region_held_drew (S := fun x => Below w.heap.size w x ∧ Below (w4.alloc (.cells (cmC k2 i2 s2 z2 n2 q2 a4 len2 cap4 t2 l2 c2 b2 e2 u2 m2 o2) 36)).heap.size (w4.alloc (.cells (cmC k2 i2 s2 z2 n2 q2 a4 len2 cap4 t2 l2 c2 b2 e2 u2 m2 o2) 36)) x ∧ x.heap[w1.heap.size]? = some (.cells (cmC k1 i1 s1 z1 n1 q1 a1 len1 cap1 t1 l1 c1 b1 e1 u1 m1 o1) 29 (0, 0)) ∧ x.heap[w2.heap.size]? = some (.cells (cmC k1 i1 s1 z1 n1 q1 a2 len1 cap2 t1 l1 c1 b1 e1 u1 m1 o1) 36 (0, 0)) ∧ x.heap[w3.heap.size]? = some (.cells (cmC k2 i2 s2 z2 n2 q2 a3 len2 cap3 t2 l2 c2 b2 e2 u2 m2 o2) 29 (0, 0)) ∧ x.heap[w4.heap.size]? = some (.cells (cmC k2 i2 s2 z2 n2 q2 a4 len2 cap4 t2 l2 c2 b2 e2 u2 m2 o2) 36 (0, 0)) ∧ x.heap[w.heap.size]? = some (.cells (ar8 y0 y1 y2 y3 y4 y5 y6 y7) 31 (0, 0))) (by kernel_rfl) (⟨Below.drew HB.out, Below.drew (Below.refl _ _), (heap_drew _ _).trans HMA.out, (heap_drew _ _).trans HMX.out, (heap_drew _ _).trans HMC.out, (heap_drew _ _).trans HMY.out, (heap_drew _ _).trans HY.out⟩) (fun hHeld => ?_)
      obtain ⟨hW, hV, hMA, hMX, hMC, hMY, hYY⟩ := id hHeld
      refine wpAnyH_take (i := 0) (v := (.int .i64 ec1)) rfl (by kernel_rfl) (by kernel_rfl) (by kernel_rfl) (fun _ _ _ h => h) (Or.inl ⟨by rfl, ?_⟩) (by assumption) ?_
      · intro w9 hSw
        try dsimp only at hSw
        go_simp
        all_goals try decide
        all_goals try assumption
        all_goals try omega
      try simp only [Act.put, List.getElem_toArray, List.getElem_cons_succ, List.getElem_cons_zero, List.setIfInBounds_toArray, List.set_cons_zero, List.set_cons_succ]
      refine wpAnyH_take (i := 1) (v := (.int .i64 ec1)) rfl (by kernel_rfl) (by kernel_rfl) (by kernel_rfl) (fun _ _ _ h => h) (Or.inl ⟨by rfl, ?_⟩) (by assumption) ?_
      · intro w9 hSw
        try dsimp only at hSw
        go_simp
        all_goals try decide
        all_goals try assumption
        all_goals try omega
      try simp only [Act.put, List.getElem_toArray, List.getElem_cons_succ, List.getElem_cons_zero, List.setIfInBounds_toArray, List.set_cons_zero, List.set_cons_succ]
      refine wpAnyH_take (i := 2) (v := (.bool false)) rfl (by kernel_rfl) (by kernel_rfl) (by kernel_rfl) (fun _ _ _ h => h) (Or.inl ⟨by rfl, ?_⟩) (by assumption) ?_
      · intro w9 hSw
        try dsimp only at hSw
        go_simp
        all_goals try decide
        all_goals try assumption
        all_goals try omega
      try simp only [Act.put, List.getElem_toArray, List.getElem_cons_succ, List.getElem_cons_zero, List.setIfInBounds_toArray, List.set_cons_zero, List.set_cons_succ]
      refine wpAnyH_take (i := 3) (v := (.bool false)) rfl (by kernel_rfl) (by kernel_rfl) (by kernel_rfl) (fun _ _ _ h => h) (Or.inl ⟨by rfl, ?_⟩) (by assumption) ?_
      · intro w9 hSw
        try dsimp only at hSw
        go_simp
        all_goals try decide
        all_goals try assumption
        all_goals try omega
      try simp only [Act.put, List.getElem_toArray, List.getElem_cons_succ, List.getElem_cons_zero, List.setIfInBounds_toArray, List.set_cons_zero, List.set_cons_succ]
      refine wpAnyH_take (i := 4) (v := (.int .i64 ec2)) rfl (by kernel_rfl) (by kernel_rfl) (by kernel_rfl) (fun _ _ _ h => h) (Or.inl ⟨by rfl, ?_⟩) (by assumption) ?_
      · intro w9 hSw
        try dsimp only at hSw
        go_simp
        all_goals try decide
        all_goals try assumption
        all_goals try omega
      try simp only [Act.put, List.getElem_toArray, List.getElem_cons_succ, List.getElem_cons_zero, List.setIfInBounds_toArray, List.set_cons_zero, List.set_cons_succ]
      refine wpAnyH_take (i := 5) (v := (.int .i64 ec2)) rfl (by kernel_rfl) (by kernel_rfl) (by kernel_rfl) (fun _ _ _ h => h) (Or.inl ⟨by rfl, ?_⟩) (by assumption) ?_
      · intro w9 hSw
        try dsimp only at hSw
        go_simp
        all_goals try decide
        all_goals try assumption
        all_goals try omega
      try simp only [Act.put, List.getElem_toArray, List.getElem_cons_succ, List.getElem_cons_zero, List.setIfInBounds_toArray, List.set_cons_zero, List.set_cons_succ]
      refine wpAnyH_take (i := 6) (v := (.bool false)) rfl (by kernel_rfl) (by kernel_rfl) (by kernel_rfl) (fun _ _ _ h => h) (Or.inl ⟨by rfl, ?_⟩) (by assumption) ?_
      · intro w9 hSw
        try dsimp only at hSw
        go_simp
        all_goals try decide
        all_goals try assumption
        all_goals try omega
      try simp only [Act.put, List.getElem_toArray, List.getElem_cons_succ, List.getElem_cons_zero, List.setIfInBounds_toArray, List.set_cons_zero, List.set_cons_succ]
      refine wpAnyH_take (i := 7) (v := (.bool false)) rfl (by kernel_rfl) (by kernel_rfl) (by kernel_rfl) (fun _ _ _ h => h) (Or.inl ⟨by rfl, ?_⟩) (by assumption) ?_
      · intro w9 hSw
        try dsimp only at hSw
        go_simp
        all_goals try decide
        all_goals try assumption
        all_goals try omega
      try simp only [Act.put, List.getElem_toArray, List.getElem_cons_succ, List.getElem_cons_zero, List.setIfInBounds_toArray, List.set_cons_zero, List.set_cons_succ]
      refine wpAnyH_take (i := 8) (v := (.bool false)) rfl (by kernel_rfl) (by kernel_rfl) (by kernel_rfl) (fun _ _ _ h => h) (Or.inl ⟨by rfl, ?_⟩) (by assumption) ?_
      · intro w9 hSw
        try dsimp only at hSw
        go_simp
        all_goals try decide
        all_goals try assumption
        all_goals try omega
      try simp only [Act.put, List.getElem_toArray, List.getElem_cons_succ, List.getElem_cons_zero, List.setIfInBounds_toArray, List.set_cons_zero, List.set_cons_succ]
      refine wpAnyH_take (i := 9) (v := (cmV k1 i1 s1 z1 n1 q1 a1 len1 cap1 t1 l1 c1 b1 e1 u1 m1 o1)) rfl (by kernel_rfl) (by kernel_rfl) (by kernel_rfl) (fun _ _ _ h => h) (Or.inl ⟨by rfl, ?_⟩) (by assumption) ?_
      · intro w9 hSw
        try dsimp only at hSw
        exact ex_load 29 (.tmp 3) rfl _ _ rfl (loadCM _ _ _ _ _ _ _ _ _ _ _ _ _ _ _ _ _ _ _ _ hSw.2.2.1)
      try simp only [Act.put, List.getElem_toArray, List.getElem_cons_succ, List.getElem_cons_zero, List.setIfInBounds_toArray, List.set_cons_zero, List.set_cons_succ]
      refine wpAnyH_take (i := 11) (v := (cmV k1 i1 s1 z1 n1 q1 a2 len1 cap2 t1 l1 c1 b1 e1 u1 m1 o1)) rfl (by kernel_rfl) (by kernel_rfl) (by kernel_rfl) (fun _ _ _ h => h) (Or.inl ⟨by rfl, ?_⟩) (by assumption) ?_
      · intro w9 hSw
        try dsimp only at hSw
        exact ex_load 36 (.tmp 5) rfl _ _ rfl (loadRC _ _ _ _ _ _ _ _ _ _ _ _ _ _ _ _ _ _ _ _ hSw.2.2.2.1)
      try simp only [Act.put, List.getElem_toArray, List.getElem_cons_succ, List.getElem_cons_zero, List.setIfInBounds_toArray, List.set_cons_zero, List.set_cons_succ]
      refine wpAnyH_ready (rs := [10]) (by kernel_rfl) (by simp) ?_
      refine AllReadyH.cons rfl (fun K' hK => ?_) AllReadyH.nil
      rw [if_pos (by rfl)]
      simp only [List.getElem_toArray, List.getElem_cons_succ, List.getElem_cons_zero]
      go_wp2_with fail
      refine (ref_any k1 i1 s1 z1 n1 q1 a1 len1 cap1 t1 l1 c1 b1 e1 u1 m1 o1 _).mono ?_
      rintro r ww1 ⟨rfl, ob1, ob2, rfl⟩
      try go_wp2_with fail
      refine hK.out _ _ (⟨Below.al (Below.al hW _) _, Below.al (Below.al hV _) _, ext_al (ext_al hMA), ext_al (ext_al hMX), ext_al (ext_al hMC), ext_al (ext_al hMY), ext_al (ext_al hYY)⟩) (fun hHeld => ?_)
      clear hK K'
      try simp only [Act.put, List.getElem_toArray, List.getElem_cons_succ, List.getElem_cons_zero, List.setIfInBounds_toArray, List.set_cons_zero, List.set_cons_succ]
      clear hW hV hMA hMX hMC hMY hYY
      obtain ⟨hW, hV, hMA, hMX, hMC, hMY, hYY⟩ := id hHeld
      refine wpAnyH_ready (rs := [12]) (by kernel_rfl) (by simp) ?_
      refine AllReadyH.cons rfl (fun K' hK => ?_) AllReadyH.nil
      rw [if_pos (by rfl)]
      simp only [List.getElem_toArray, List.getElem_cons_succ, List.getElem_cons_zero]
      go_wp2_with fail
      refine (KS1.out _ a1 a2 cap1 cap2 (HS1.out.next hV) (HS2.out.next hV)).mono ?_
      rintro r ww2 ⟨rfl, ob3, ob4, rfl⟩
      try go_wp2_with fail
      refine hK.out _ _ (⟨Below.al (Below.al hW _) _, Below.al (Below.al hV _) _, ext_al (ext_al hMA), ext_al (ext_al hMX), ext_al (ext_al hMC), ext_al (ext_al hMY), ext_al (ext_al hYY)⟩) (fun hHeld => ?_)
      clear hK K'
      try simp only [Act.put, List.getElem_toArray, List.getElem_cons_succ, List.getElem_cons_zero, List.setIfInBounds_toArray, List.set_cons_zero, List.set_cons_succ]
      clear hW hV hMA hMX hMC hMY hYY
      obtain ⟨hW, hV, hMA, hMX, hMC, hMY, hYY⟩ := id hHeld
      refine wpAnyH_take (i := 13) (v := (.bool false)) rfl (by kernel_rfl) (by kernel_rfl) (by kernel_rfl) (fun _ _ _ h => h) (Or.inl ⟨by rfl, ?_⟩) (by assumption) ?_
      · intro w9 hSw
        try dsimp only at hSw
        go_simp
        all_goals try decide
        all_goals try assumption
        all_goals try omega
      try simp only [Act.put, List.getElem_toArray, List.getElem_cons_succ, List.getElem_cons_zero, List.setIfInBounds_toArray, List.set_cons_zero, List.set_cons_succ]
      refine wpAnyH_take (i := 14) (v := (.bool false)) rfl (by kernel_rfl) (by kernel_rfl) (by kernel_rfl) (fun _ _ _ h => h) (Or.inl ⟨by rfl, ?_⟩) (by assumption) ?_
      · intro w9 hSw
        try dsimp only at hSw
        go_simp
        all_goals try decide
        all_goals try assumption
        all_goals try omega
      try simp only [Act.put, List.getElem_toArray, List.getElem_cons_succ, List.getElem_cons_zero, List.setIfInBounds_toArray, List.set_cons_zero, List.set_cons_succ]
      refine wpAnyH_take (i := 15) (v := (.bool false)) rfl (by kernel_rfl) (by kernel_rfl) (by kernel_rfl) (fun _ _ _ h => h) (Or.inl ⟨by rfl, ?_⟩) (by assumption) ?_
      · intro w9 hSw
        try dsimp only at hSw
        go_simp
        all_goals try decide
        all_goals try assumption
        all_goals try omega
      try simp only [Act.put, List.getElem_toArray, List.getElem_cons_succ, List.getElem_cons_zero, List.setIfInBounds_toArray, List.set_cons_zero, List.set_cons_succ]
      refine wpAnyH_take (i := 16) (v := (cmV k2 i2 s2 z2 n2 q2 a3 len2 cap3 t2 l2 c2 b2 e2 u2 m2 o2)) rfl (by kernel_rfl) (by kernel_rfl) (by kernel_rfl) (fun _ _ _ h => h) (Or.inl ⟨by rfl, ?_⟩) (by assumption) ?_
      · intro w9 hSw
        try dsimp only at hSw
        exact ex_load 29 (.tmp 7) rfl _ _ rfl (loadCM _ _ _ _ _ _ _ _ _ _ _ _ _ _ _ _ _ _ _ _ hSw.2.2.2.2.1)
      try simp only [Act.put, List.getElem_toArray, List.getElem_cons_succ, List.getElem_cons_zero, List.setIfInBounds_toArray, List.set_cons_zero, List.set_cons_succ]
      refine wpAnyH_take (i := 18) (v := (cmV k2 i2 s2 z2 n2 q2 a4 len2 cap4 t2 l2 c2 b2 e2 u2 m2 o2)) rfl (by kernel_rfl) (by kernel_rfl) (by kernel_rfl) (fun _ _ _ h => h) (Or.inl ⟨by rfl, ?_⟩) (by assumption) ?_
      · intro w9 hSw
        try dsimp only at hSw
        exact ex_load 36 (.tmp 9) rfl _ _ rfl (loadRC _ _ _ _ _ _ _ _ _ _ _ _ _ _ _ _ _ _ _ _ hSw.2.2.2.2.2.1)
      try simp only [Act.put, List.getElem_toArray, List.getElem_cons_succ, List.getElem_cons_zero, List.setIfInBounds_toArray, List.set_cons_zero, List.set_cons_succ]
      refine wpAnyH_ready (rs := [17]) (by kernel_rfl) (by simp) ?_
      refine AllReadyH.cons rfl (fun K' hK => ?_) AllReadyH.nil
      rw [if_pos (by rfl)]
      simp only [List.getElem_toArray, List.getElem_cons_succ, List.getElem_cons_zero]
      go_wp2_with fail
      refine (ref_any k2 i2 s2 z2 n2 q2 a3 len2 cap3 t2 l2 c2 b2 e2 u2 m2 o2 _).mono ?_
      rintro r ww3 ⟨rfl, ob5, ob6, rfl⟩
      try go_wp2_with fail
      refine hK.out _ _ (⟨Below.al (Below.al hW _) _, Below.al (Below.al hV _) _, ext_al (ext_al hMA), ext_al (ext_al hMX), ext_al (ext_al hMC), ext_al (ext_al hMY), ext_al (ext_al hYY)⟩) (fun hHeld => ?_)
      clear hK K'
      try simp only [Act.put, List.getElem_toArray, List.getElem_cons_succ, List.getElem_cons_zero, List.setIfInBounds_toArray, List.set_cons_zero, List.set_cons_succ]
      clear hW hV hMA hMX hMC hMY hYY
      obtain ⟨hW, hV, hMA, hMX, hMC, hMY, hYY⟩ := id hHeld
      refine wpAnyH_ready (rs := [19]) (by kernel_rfl) (by simp) ?_
      refine AllReadyH.cons rfl (fun K' hK => ?_) AllReadyH.nil
      rw [if_pos (by rfl)]
      simp only [List.getElem_toArray, List.getElem_cons_succ, List.getElem_cons_zero]
      go_wp2_with fail
      refine (KS2.out _ a3 a4 cap3 cap4 (HS3.out.next hV) (HS4.out.next hV)).mono ?_
      rintro r ww4 ⟨rfl, ob7, ob8, rfl⟩
      try go_wp2_with fail
      refine hK.out _ _ (⟨Below.al (Below.al hW _) _, Below.al (Below.al hV _) _, ext_al (ext_al hMA), ext_al (ext_al hMX), ext_al (ext_al hMC), ext_al (ext_al hMY), ext_al (ext_al hYY)⟩) (fun hHeld => ?_)
      clear hK K'
      try simp only [Act.put, List.getElem_toArray, List.getElem_cons_succ, List.getElem_cons_zero, List.setIfInBounds_toArray, List.set_cons_zero, List.set_cons_succ]
      clear hW hV hMA hMX hMC hMY hYY
      obtain ⟨hW, hV, hMA, hMX, hMC, hMY, hYY⟩ := id hHeld
      refine wpAnyH_take (i := 20) (v := (.bool false)) rfl (by kernel_rfl) (by kernel_rfl) (by kernel_rfl) (fun _ _ _ h => h) (Or.inl ⟨by rfl, ?_⟩) (by assumption) ?_
      · intro w9 hSw
        try dsimp only at hSw
        go_simp
        all_goals try decide
        all_goals try assumption
        all_goals try omega
      try simp only [Act.put, List.getElem_toArray, List.getElem_cons_succ, List.getElem_cons_zero, List.setIfInBounds_toArray, List.set_cons_zero, List.set_cons_succ]
      refine wpAnyH_take (i := 21) (v := (.bool false)) rfl (by kernel_rfl) (by kernel_rfl) (by kernel_rfl) (fun _ _ _ h => h) (Or.inl ⟨by rfl, ?_⟩) (by assumption) ?_
      · intro w9 hSw
        try dsimp only at hSw
        go_simp
        all_goals try decide
        all_goals try assumption
        all_goals try omega
      try simp only [Act.put, List.getElem_toArray, List.getElem_cons_succ, List.getElem_cons_zero, List.setIfInBounds_toArray, List.set_cons_zero, List.set_cons_succ]
      refine wpAnyH_done (by kernel_rfl) ?_ _
      go_wp2_with fail
      go_meet
      exact ⟨rfl, hHeld⟩
  case rest =>
    obtain ⟨rfl, hF⟩ := hcut
    have HFF : Hid _ := hF
    clear hF
    obtain ⟨hW, hV, hMA, hMX, hMC, hMY, hYY⟩ := HFF.out
    skip
    have KE : ∀ g, g < w1.heap.size → wc.heap[g]? = w1.heap[g]? := fun g hg => keep_all hg HB2.out HB3.out HB4.out hV
    have hg1 : 0 < len1 → ∀ b off, a1 = some ⟨b, off, none⟩ → b < w1.heap.size ∧ w.heap.size < b := fun hp b off e => ⟨T1.out.row.old hp b off e, by obtain ⟨g, e', hgg, _⟩ := T1.out.own hp; rw [e] at e'; cases e'; simp at hgg; omega⟩
    have T5 : Hid (LW a1 len1 wc wc) := LW.start (T1.out.keep (Nat.le_refl _) (fun g _ h2 => KE g h2))
    have HG1 : Hid _ := hg1
    have hb2f : Hid (0 < len1 → ∀ b off, a2 = some ⟨b, off, none⟩ → w1.heap.size < b) := fun hp b off e => by have := HF2.out hp b off e; simp at this; omega
    have RS2 : Hid (Row wc a2 len1 d1) := HS2.out.next hV
    have QA : Hid _ := hMA
    have QX : Hid _ := hMX
    have QY : Hid _ := hYY
    have QW : Hid _ := hW
    clear KE hg1 hW hV hMA hMX hMC hMY hYY HFF HMA HMX HMC HMY HY HB HB2 HB3 HB4 HS1 HS2 HS3 HS4 HF2 HF4 T1 KB KC KD G2 R1 R2 KS2
    go_wp2_with fail
    go_loopw [11] (fun id wr => ∃ j : Nat, id = .int .i64 (j : Int) ∧ j ≤ len1 ∧ Hid (LW a1 len1 wc wr)) (fun id _ => len1 - (intOf id).toNat)
    case atStart => exact ⟨0, rfl, Nat.zero_le _, T5⟩
    case round =>
      obtain ⟨j, rfl, hj, HL⟩ := hrel
      have neA : 0 < len1 → ∀ b off, a1 = some ⟨b, off, none⟩ → w1.heap.size ≠ b := fun hp b off e => Nat.ne_of_gt (HG1.out hp b off e).1
      have neY : 0 < len1 → ∀ b off, a1 = some ⟨b, off, none⟩ → w.heap.size ≠ b := fun hp b off e => Nat.ne_of_lt (HG1.out hp b off e).2
      have neX : 0 < len1 → ∀ b off, a1 = some ⟨b, off, none⟩ → w2.heap.size ≠ b := fun hp b off e => by have h1 := (HG1.out hp b off e).1; have h2 := l12.out; omega
      have mA := (HL.out.far _ neA).trans QA.out
      have mY := (HL.out.far _ neY).trans QY.out
      have mX := (HL.out.far _ neX).trans QX.out
      clear neA neY neX
      have cA : wr.cell? ⟨w1.heap.size, 6, none⟩ = some (.slice a1 len1 cap1) := by rw [cell_of_row _ _ 6 _ _ _ mA]; rfl
      by_cases hjl : (j : Int) < (len1 : Int)
      · have hjn : j < len1 := by omega
        have eJ : IntKind.i64.wrap ((j : Int) + 1) = ((j + 1 : Nat) : Int) := by rw [wrapI64 _ (by omega) (by have hm := hmax.out; unfold maxLen at hm; omega)]; omega
        obtain ⟨g, hg, hcs⟩ := HL.out.own (by omega)
        obtain ⟨⟨v, hv⟩, hz⟩ := hcs j hjn
        subst hg
        clear hcs mX mY mA
        go_wp2_with fail
        exact ⟨⟨j + 1, rfl, by omega, HL.out.step hjn⟩, by simp only [intOf]; omega⟩
      · as_aux_lemma =>
          have BL : Below w.heap.size w wr := lw_below QW.out HL.out HG1.out
          have SR : Row wr a2 len1 d1 := HL.out.row RS2.out (fun hp hp2 b off b' off' e e' => by have h1 := hb2f.out hp b' off' e; have h2 := (HG1.out hp2 b off e').1; omega)
          go_wp2_with (refine wpList_load_by rfl 31 _ rfl _ _ rfl (load8 _ (w.heap.size) _ _ _ _ _ _ _ _ _ mY) ?_)
          with_reducible refine (KA.out _).mono ?_
          intro r w7 hp
          obtain ⟨a7, cap7, rfl, ht7, hb⟩ := G1.out _ _ _ hp
          clear hp
          have B7 := Below.al (Below.andThen BL hb) (.cells (cmC k1 i1 s1 z1 n1 q1 a7 len1 cap7 t1 l1 c1 b1 e1 u1 m1 o1) 29)
          have S7 : Row (w7.alloc (.cells (cmC k1 i1 s1 z1 n1 q1 a7 len1 cap7 t1 l1 c1 b1 e1 u1 m1 o1) 29)) a7 len1 d1 := ht7.row.next (Below.al (Below.refl _ _) _)
          have S2 : Row (w7.alloc (.cells (cmC k1 i1 s1 z1 n1 q1 a7 len1 cap7 t1 l1 c1 b1 e1 u1 m1 o1) 29)) a2 len1 d1 := (SR.next hb).next (Below.al (Below.refl _ _) _)
          have M7 := heap_new w7 (.cells (cmC k1 i1 s1 z1 n1 q1 a7 len1 cap7 t1 l1 c1 b1 e1 u1 m1 o1) 29)
          have MX7 := ext_al (o := (.cells (cmC k1 i1 s1 z1 n1 q1 a7 len1 cap7 t1 l1 c1 b1 e1 u1 m1 o1) 29)) (blkr hb mX)
          clear hb ht7 cA mA mY mX SR BL
          go_wp2_with fail
          refine wp_region_held_drew (S := fun x => Below w.heap.size w x ∧ Below (w7.alloc (.cells (cmC k1 i1 s1 z1 n1 q1 a7 len1 cap7 t1 l1 c1 b1 e1 u1 m1 o1) 29)).heap.size (w7.alloc (.cells (cmC k1 i1 s1 z1 n1 q1 a7 len1 cap7 t1 l1 c1 b1 e1 u1 m1 o1) 29)) x ∧ x.heap[w7.heap.size]? = some (.cells (cmC k1 i1 s1 z1 n1 q1 a7 len1 cap7 t1 l1 c1 b1 e1 u1 m1 o1) 29 (0, 0)) ∧ x.heap[w2.heap.size]? = some (.cells (cmC k1 i1 s1 z1 n1 q1 a2 len1 cap2 t1 l1 c1 b1 e1 u1 m1 o1) 36 (0, 0))) (by kernel_rfl) (⟨Below.drew B7, Below.drew (Below.refl _ _), (heap_drew _ _).trans M7, (heap_drew _ _).trans MX7⟩) (fun hHeld => ?_)
          obtain ⟨hW, hV, hM, hX⟩ := id hHeld
          refine wpAnyH_take (i := 0) (v := (cmV k1 i1 s1 z1 n1 q1 a7 len1 cap7 t1 l1 c1 b1 e1 u1 m1 o1)) rfl (by kernel_rfl) (by kernel_rfl) (by kernel_rfl) (fun _ _ _ h => h) (Or.inl ⟨by rfl, ?_⟩) (by assumption) ?_
          · intro w9 hSw
            try dsimp only at hSw
            exact ex_load 29 (.tmp 12) rfl _ _ rfl (loadCM _ _ _ _ _ _ _ _ _ _ _ _ _ _ _ _ _ _ _ _ hSw.2.2.1)
          try simp only [Act.put, List.getElem_toArray, List.getElem_cons_succ, List.getElem_cons_zero, List.setIfInBounds_toArray, List.set_cons_zero, List.set_cons_succ]
          refine wpAnyH_take (i := 2) (v := (cmV k1 i1 s1 z1 n1 q1 a2 len1 cap2 t1 l1 c1 b1 e1 u1 m1 o1)) rfl (by kernel_rfl) (by kernel_rfl) (by kernel_rfl) (fun _ _ _ h => h) (Or.inl ⟨by rfl, ?_⟩) (by assumption) ?_
          · intro w9 hSw
            try dsimp only at hSw
            exact ex_load 36 (.tmp 5) rfl _ _ rfl (loadRC _ _ _ _ _ _ _ _ _ _ _ _ _ _ _ _ _ _ _ _ hSw.2.2.2)
          try simp only [Act.put, List.getElem_toArray, List.getElem_cons_succ, List.getElem_cons_zero, List.setIfInBounds_toArray, List.set_cons_zero, List.set_cons_succ]
          refine wpAnyH_ready (rs := [1]) (by kernel_rfl) (by simp) ?_
          refine AllReadyH.cons rfl (fun K' hK => ?_) AllReadyH.nil
          rw [if_pos (by rfl)]
          simp only [List.getElem_toArray, List.getElem_cons_succ, List.getElem_cons_zero]
          go_wp2_with fail
          refine (ref_any k1 i1 s1 z1 n1 q1 a7 len1 cap7 t1 l1 c1 b1 e1 u1 m1 o1 _).mono ?_
          rintro r ww1 ⟨rfl, ob1, ob2, rfl⟩
          try go_wp2_with fail
          refine hK.out _ _ (⟨Below.al (Below.al hW _) _, Below.al (Below.al hV _) _, ext_al (ext_al hM), ext_al (ext_al hX)⟩) (fun hHeld => ?_)
          clear hK K'
          try simp only [Act.put, List.getElem_toArray, List.getElem_cons_succ, List.getElem_cons_zero, List.setIfInBounds_toArray, List.set_cons_zero, List.set_cons_succ]
          clear hW hV hM hX
          obtain ⟨hW, hV, hM, hX⟩ := id hHeld
          refine wpAnyH_ready (rs := [3]) (by kernel_rfl) (by simp) ?_
          refine AllReadyH.cons rfl (fun K' hK => ?_) AllReadyH.nil
          rw [if_pos (by rfl)]
          simp only [List.getElem_toArray, List.getElem_cons_succ, List.getElem_cons_zero]
          go_wp2_with fail
          refine (KS1.out _ a7 a2 cap7 cap2 (S7.next hV) (S2.next hV)).mono ?_
          rintro r ww2 ⟨rfl, ob3, ob4, rfl⟩
          try go_wp2_with fail
          refine hK.out _ _ (⟨Below.al (Below.al hW _) _, Below.al (Below.al hV _) _, ext_al (ext_al hM), ext_al (ext_al hX)⟩) (fun hHeld => ?_)
          clear hK K'
          try simp only [Act.put, List.getElem_toArray, List.getElem_cons_succ, List.getElem_cons_zero, List.setIfInBounds_toArray, List.set_cons_zero, List.set_cons_succ]
          clear hW hV hM hX
          obtain ⟨hW, hV, hM, hX⟩ := id hHeld
          refine wpAnyH_take (i := 4) (v := (.bool true)) rfl (by kernel_rfl) (by kernel_rfl) (by kernel_rfl) (fun _ _ _ h => h) (Or.inl ⟨by rfl, ?_⟩) (by assumption) ?_
          · intro w9 hSw
            try dsimp only at hSw
            go_simp
            all_goals try decide
            all_goals try assumption
            all_goals try omega
          try simp only [Act.put, List.getElem_toArray, List.getElem_cons_succ, List.getElem_cons_zero, List.setIfInBounds_toArray, List.set_cons_zero, List.set_cons_succ]
          refine wpAnyH_ready (rs := [5]) (by kernel_rfl) (by simp) ?_
          refine AllReadyH.cons rfl (fun K' hK => ?_) AllReadyH.nil
          rw [if_pos (by rfl)]
          simp only [List.getElem_toArray, List.getElem_cons_succ, List.getElem_cons_zero]
          go_wp2_with fail
          refine (works_any _).mono ?_
          rintro r ww3 ⟨rfl, hbw⟩
          try go_wp2_with fail
          refine hK.out _ _ (⟨Below.andThen hW hbw, Below.andThen hV hbw, blkr hbw hM, blkr hbw hX⟩) (fun hHeld => ?_)
          clear hK K'
          try simp only [Act.put, List.getElem_toArray, List.getElem_cons_succ, List.getElem_cons_zero, List.setIfInBounds_toArray, List.set_cons_zero, List.set_cons_succ]
          clear hW hV hM hX
          obtain ⟨hW, hV, hM, hX⟩ := id hHeld
          refine wpAnyH_take (i := 6) (v := (.bool true)) rfl (by kernel_rfl) (by kernel_rfl) (by kernel_rfl) (fun _ _ _ h => h) (Or.inl ⟨by rfl, ?_⟩) (by assumption) ?_
          · intro w9 hSw
            try dsimp only at hSw
            go_simp
            all_goals try decide
            all_goals try assumption
            all_goals try omega
          try simp only [Act.put, List.getElem_toArray, List.getElem_cons_succ, List.getElem_cons_zero, List.setIfInBounds_toArray, List.set_cons_zero, List.set_cons_succ]
          refine wpAnyH_take (i := 7) (v := (.bool true)) rfl (by kernel_rfl) (by kernel_rfl) (by kernel_rfl) (fun _ _ _ h => h) (Or.inl ⟨by rfl, ?_⟩) (by assumption) ?_
          · intro w9 hSw
            try dsimp only at hSw
            go_simp
            all_goals try decide
            all_goals try assumption
            all_goals try omega
          try simp only [Act.put, List.getElem_toArray, List.getElem_cons_succ, List.getElem_cons_zero, List.setIfInBounds_toArray, List.set_cons_zero, List.set_cons_succ]
          refine wpAnyH_done (by kernel_rfl) ?_ _
          have hWf := hW
          clear hHeld
          go_wp2_with fail
          go_ret
          exact ⟨rfl, hWf⟩
#print axioms shortReads_any
end Go.Proofs.Ytgpegnpjkkofaaa
