/-
  ShortReads returns true.
  ShortWrites returns true.
  The walks of Segment, Segmented, and the document's Segment.
  ShortSegments returns true.
  ShortBack returns true.
-/
import Derived.Test.YtlnlejdjekbipaaQf1
import Derived.Test.YtlnlejdjekbipaaZb
import Derived.Deep.DeepCutAuto
import Derived.Test.YtlnlejdjekbipaaTk9
import Derived.Test.YtlnlejdjekbipaaRl1
import Derived.Test.YtlnlejdjekbipaaSh
import Derived.Test.YtlnlejdjekbipaaSf4
import Derived.Test.YtlnlejdjekbipaaSu
import Derived.Test.YtlnlejdjekbipaaRa1
import Derived.Laws.Bits128
import Derived.Test.YtlnlejdjekbipaaPf
import Derived.Test.YtlnlejdjekbipaaRe
namespace Go.Proofs.Ytlnlejdjekbipaa
open Go.RowKit

theorem command_ask' (y : B8) (oky : y.Ok) (w : World) : Calls Try.prog 16 #[y.v, .bool false] w (RCPost w (askedP y)) := by
  cases h : askedP y with
  | none =>
    have := command_ask y oky none (fun i e => by cases e) (fun _ => h) (fun i e => by cases e) w
    rw [h] at this; exact this
  | some z =>
    obtain ⟨hp, _⟩ := askP_of y z h
    obtain ⟨⟨f, bt, n, h1, h2, h3, h4, h5, h6⟩, hk1, hk2⟩ := found_askP z y hp
    have hk : ((z.k.toNat : Nat) : Int) = z.k := by omega
    have := command_ask y oky (some (z.k.toNat, f, bt, n)) (fun i e => by cases e; exact ⟨by omega, by omega, h1, h2, h3, h4, h5⟩) (fun e => by cases e) (fun i e => by cases e; show _ = some (cand ((z.k.toNat : Nat) : Int) y f bt n); rw [hk, h6]; exact h) w
    rw [h] at this; exact this
theorem command_ans' (y : B8) (oky : y.Ok) (w : World) : Calls Try.prog 16 #[y.v, .bool true] w (RCPost w (answeredP y)) := by
  cases h : answeredP y with
  | none =>
    have := command_ans y oky none (fun i e => by cases e) (fun _ => h) (fun i e => by cases e) w
    rw [h] at this; exact this
  | some z =>
    obtain ⟨hp, _⟩ := ansP_of y z h
    obtain ⟨⟨f, bt, n, h1, h2, h3, h4, h5, h6⟩, hk1, hk2⟩ := found_ansP z y hp
    have hk : ((z.k.toNat : Nat) : Int) = z.k := by omega
    have := command_ans y oky (some (z.k.toNat, f, bt, n)) (fun i e => by cases e; exact ⟨by omega, by omega, h1, h2, h3, h4, h5⟩) (fun e => by cases e) (fun i e => by cases e; show _ = some (cand ((z.k.toNat : Nat) : Int) y f bt n); rw [hk, h6]; exact h) w
    rw [h] at this; exact this
/-- What is told of bytes, by the program and by the document: the same command and error. -/
theorem cgen (O : Option Cm) : ∃ (z : Cm) (ec : Int), (∀ W r w', CPost W O r w' → ∃ a cap, r = .returned (.tuple #[z.v a z.d.length cap, .int .i64 ec]) ∧ Told W w' a z.d.length cap z.d ∧ Below W.heap.size W w') ∧
    (∀ W r w', RCPost W O r w' → ∃ a cap, r = .returned (.tuple #[z.v a z.d.length cap, .int .i64 ec]) ∧ Row w' a z.d.length z.d ∧ (0 < z.d.length → ∀ b off, a = some ⟨b, off, none⟩ → W.heap.size ≤ b) ∧ Below W.heap.size W w') := by
  cases O with
  | none =>
    refine ⟨⟨0, 0, 0, false, 0, false, [], false, false, false, 0, 0, 0, 0, 0⟩, 11, fun W r w' h => ⟨none, 0, h.1, ⟨row_nil _, Nat.le_refl _, by decide, fun h => absurd h (by decide)⟩, h.2⟩, fun W r w' h => ⟨none, 0, h.1, row_nil _, fun h => absurd h (by decide), h.2⟩⟩
  | some z => exact ⟨z, 0, fun W r w' h => h, fun W r w' h => h⟩
/-- Bytes that are written over: nothing else turns. -/
structure LW (a : Option Addr) (len : Nat) (x x' : World) : Prop where
  os : x'.os = x.os
  tape : x'.tape = x.tape
  output : x'.output = x.output
  size : x'.heap.size = x.heap.size
  far : ∀ j, (0 < len → ∀ b off, a = some ⟨b, off, none⟩ → j ≠ b) → x'.heap[j]? = x.heap[j]?
  own : 0 < len → ∃ g, a = some ⟨g, 0, none⟩ ∧ ∀ i, i < len → (∃ v, x'.cell? ⟨g, i, none⟩ = some (.int .u8 v)) ∧ x'.frozen? ⟨g, i, none⟩ = false
theorem LW.start {a : Option Addr} {len cap : Nat} {zs : List Int} {w x : World} (h : Told w x a len cap zs) : LW a len x x :=
  ⟨rfl, rfl, rfl, rfl, fun _ _ => rfl, fun hp => by
    obtain ⟨g, e, _, hz⟩ := h.own hp
    obtain ⟨b, off, e', hc⟩ := h.row.at_ hp
    rw [e] at e'
    cases e'
    exact ⟨g, e, fun i hi => ⟨⟨_, by have := hc i hi; rw [Nat.zero_add] at this; exact this⟩, hz i hi⟩⟩⟩
theorem LW.step {g : Nat} {len i : Nat} {x x' : World} (h : LW (some ⟨g, 0, none⟩) len x x') (hi : i < len) : LW (some ⟨g, 0, none⟩) len x (x'.setCell ⟨g, i, none⟩ (.int .u8 99)) :=
  ⟨h.os, h.tape, h.output, by simp [h.size], fun j hj => (Below.heap_setCell _ _ _ _ (hj (by omega) g 0 rfl)).trans (h.far j hj), fun hp => by
    obtain ⟨g', e, hc⟩ := h.own hp
    cases e
    refine ⟨_, rfl, fun j hj => ⟨?_, by simp [(hc j hj).2]⟩⟩
    obtain ⟨v, hv⟩ := (hc j hj).1
    by_cases hji : j = i
    · subst hji; exact ⟨99, World.cell?_setCell_same _ _ _ hv⟩
    · exact ⟨v, by rw [World.cell?_setCell_other _ _ _ _ (by intro e; cases e; exact hji rfl)]; exact hv⟩⟩
theorem blkr {W W' : World} {j : Nat} {v : Obj} (hb : Below W.heap.size W W') (h : W.heap[j]? = some v) : W'.heap[j]? = some v := (hb.block _ (Array.getElem?_eq_some_iff.1 h).1).trans h
/-- A row of another block stays. -/
theorem LW.row {a a' : Option Addr} {len len' : Nat} {zs : List Int} {x x' : World} (h : LW a len x x') (hr : Row x a' len' zs) (hne : 0 < len' → 0 < len → ∀ b off b' off', a' = some ⟨b', off', none⟩ → a = some ⟨b, off, none⟩ → b' ≠ b) : Row x' a' len' zs :=
  ⟨hr.size, hr.oct, fun hp => by
    obtain ⟨b, off, e, hc⟩ := hr.at_ hp
    exact ⟨b, off, e, fun i hi => by rw [World.cell?_of_block (w := x) (h.far b (fun hl b2 off2 e2 => hne hp hl b2 off2 b off e e2))]; exact hc i hi⟩⟩

theorem keep_all {w1 w2 w3 w4 wc : World} {o1 o2 o3 o4 : Obj} {g : Nat} (hg : g < w1.heap.size) (h2 : Below (w1.alloc o1).heap.size (w1.alloc o1) w2) (h3 : Below (w2.alloc o2).heap.size (w2.alloc o2) w3) (h4 : Below (w3.alloc o3).heap.size (w3.alloc o3) w4) (h5 : Below (w4.alloc o4).heap.size (w4.alloc o4) wc) : wc.heap[g]? = w1.heap[g]? := by
  have s2 := h2.size
  have s3 := h3.size
  have s4 := h4.size
  simp at s2 s3 s4
  rw [h5.block g (by simp; omega), Below.heap_alloc _ _ _ (by omega), h4.block g (by simp; omega), Below.heap_alloc _ _ _ (by omega), h3.block g (by simp; omega), Below.heap_alloc _ _ _ (by omega), h2.block g (by simp; omega), Below.heap_alloc _ _ _ hg]
theorem lw_below {w x x' : World} {a : Option Addr} {len N : Nat} (hb : Below w.heap.size w x) (h : LW a len x x') (hg : 0 < len → ∀ b off, a = some ⟨b, off, none⟩ → b < N ∧ w.heap.size < b) : Below w.heap.size w x' :=
  ⟨h.os.trans hb.os, h.tape.trans hb.tape, h.output.trans hb.output, by rw [h.size]; exact hb.size, fun k hk => (h.far k (fun hp b off e => by have := (hg hp b off e).2; omega)).trans (hb.block k hk)⟩

set_option linter.unusedSimpArgs false in
set_option maxHeartbeats 20000000 in
set_option maxRecDepth 100000 in
theorem shortReads_any (y : B8) (oky : y.Ok) (w : World) :
    Calls Try.prog 4 #[y.v] w fun e w' => e = .returned (.bool true) ∧ Below w.heap.size w w' := by
  have KA : Hid (∀ W, Calls Try.prog 15 #[arr8 y.b0 y.b1 y.b2 y.b3 y.b4 y.b5 y.b6 y.b7] W (CPost W (askedP y))) := fun W => asked_any y oky W
  have KC : Hid (∀ W, Calls Try.prog 16 #[arr8 y.b0 y.b1 y.b2 y.b3 y.b4 y.b5 y.b6 y.b7, .bool false] W (RCPost W (askedP y))) := fun W => command_ask' y oky W
  have KB : Hid (∀ W, Calls Try.prog 17 #[arr8 y.b0 y.b1 y.b2 y.b3 y.b4 y.b5 y.b6 y.b7] W (CPost W (answeredP y))) := fun W => answered_any y oky W
  have KD : Hid (∀ W, Calls Try.prog 16 #[arr8 y.b0 y.b1 y.b2 y.b3 y.b4 y.b5 y.b6 y.b7, .bool true] W (RCPost W (answeredP y))) := fun W => command_ans' y oky W
  generalize askedP y = O1 at KA KC
  generalize answeredP y = O2 at KB KD
  clear oky
  obtain ⟨z1, ec1, P1, Q1⟩ := cgen O1
  obtain ⟨z2, ec2, P2, Q2⟩ := cgen O2
  have G1 : Hid _ := P1
  have R1 : Hid _ := Q1
  have G2 : Hid _ := P2
  have R2 : Hid _ := Q2
  clear P1 Q1 P2 Q2
  have KS1 : Hid (∀ W a a' cap cap', Row W a z1.d.length z1.d → Row W a' z1.d.length z1.d → Calls Try.prog 18 #[z1.v a z1.d.length cap, z1.v a' z1.d.length cap'] W fun r w' => r = .returned (.bool true) ∧ ∃ o1 o2, w' = (W.alloc o1).alloc o2) := fun W a a' cap cap' h1 h2 => by
    have := same_any z1 z1 a _ cap a' _ cap' W h1 h2
    rw [decide_eq_true rfl] at this
    exact this
  have KS2 : Hid (∀ W a a' cap cap', Row W a z2.d.length z2.d → Row W a' z2.d.length z2.d → Calls Try.prog 18 #[z2.v a z2.d.length cap, z2.v a' z2.d.length cap'] W fun r w' => r = .returned (.bool true) ∧ ∃ o1 o2, w' = (W.alloc o1).alloc o2) := fun W a a' cap cap' h1 h2 => by
    have := same_any z2 z2 a _ cap a' _ cap' W h1 h2
    rw [decide_eq_true rfl] at this
    exact this
  obtain ⟨k1, i1, s1, z1, n1, q1, d1, t1, l1, c1, b1, e1, u1, m1, o1⟩ := z1
  dsimp only at G1 R1 KS1
  obtain ⟨len1, hl1⟩ : ∃ len1, d1.length = len1 := ⟨_, rfl⟩
  rw [hl1] at G1 R1 KS1
  clear hl1
  obtain ⟨k2, i2, s2, z2, n2, q2, d2, t2, l2, c2, b2, e2, u2, m2, o2⟩ := z2
  dsimp only at G2 R2 KS2
  obtain ⟨len2, hl2⟩ : ∃ len2, d2.length = len2 := ⟨_, rfl⟩
  rw [hl2] at G2 R2 KS2
  clear hl2
  obtain ⟨y0, y1, y2, y3, y4, y5, y6, y7⟩ := y
  dsimp only at KA KB KC KD ⊢
  go_enter Try.func4, Try.ntmps4
  go_wp2_with fail
  with_reducible refine (KA.out _).mono ?_
  intro r w1 hp
  obtain ⟨a1, cap1, rfl, ht1, hb⟩ := G1.out _ _ _ hp
  clear hp
  have B1 : Below w.heap.size w w1 := Below.andThen (Below.al (Below.refl _ _) _) hb
  have Y1 : w1.heap[w.heap.size]? = some (.cells (ar8 y0 y1 y2 y3 y4 y5 y6 y7) 31 (0, 0)) := blkr hb (heap_new _ _)
  have T1 : Hid (Told (w.alloc (.cells (ar8 y0 y1 y2 y3 y4 y5 y6 y7) 31)) w1 a1 len1 cap1 d1) := ht1
  have hmax : Hid (len1 ≤ maxLen) := Nat.le_trans ht1.le ht1.max
  have S11 : Row w1 a1 len1 d1 := ht1.row
  clear hb
  clear ht1
  have Y1X := ext_al (o := (.cells (cmC k1 i1 s1 z1 n1 q1 a1 len1 cap1 t1 l1 c1 b1 e1 u1 m1 o1) 29)) Y1
  have B1X := Below.al B1 (.cells (cmC k1 i1 s1 z1 n1 q1 a1 len1 cap1 t1 l1 c1 b1 e1 u1 m1 o1) 29)
  have S11X := S11.next (Below.al (Below.refl _ _) (.cells (cmC k1 i1 s1 z1 n1 q1 a1 len1 cap1 t1 l1 c1 b1 e1 u1 m1 o1) 29))
  have MA1X := heap_new w1 (.cells (cmC k1 i1 s1 z1 n1 q1 a1 len1 cap1 t1 l1 c1 b1 e1 u1 m1 o1) 29)
  go_wp2_with (refine wpList_load_by rfl 31 _ rfl _ _ rfl (load8 _ (w.heap.size) _ _ _ _ _ _ _ _ _ Y1X) ?_)
  with_reducible refine (KC.out _).mono ?_
  intro r w2 hp
  obtain ⟨a2, cap2, rfl, hr2, hf2, hb⟩ := R1.out _ _ _ hp
  clear hp
  have B2 : Below w.heap.size w w2 := Below.andThen B1X hb
  have Y2 : w2.heap[w.heap.size]? = some (.cells (ar8 y0 y1 y2 y3 y4 y5 y6 y7) 31 (0, 0)) := blkr hb Y1X
  have MA2 := blkr hb MA1X
  have S12 := S11X.next hb
  have S22 : Row w2 a2 len1 d1 := hr2
  have HB2 : Hid (Below (w1.alloc (.cells (cmC k1 i1 s1 z1 n1 q1 a1 len1 cap1 t1 l1 c1 b1 e1 u1 m1 o1) 29)).heap.size (w1.alloc (.cells (cmC k1 i1 s1 z1 n1 q1 a1 len1 cap1 t1 l1 c1 b1 e1 u1 m1 o1) 29)) w2) := hb
  clear hb
  have HF2 : Hid (0 < len1 → ∀ b off, a2 = some ⟨b, off, none⟩ → ((w1.alloc (.cells (cmC k1 i1 s1 z1 n1 q1 a1 len1 cap1 t1 l1 c1 b1 e1 u1 m1 o1) 29))).heap.size ≤ b) := hf2
  clear hr2 hf2
  have Y2X := ext_al (o := (.cells (cmC k1 i1 s1 z1 n1 q1 a2 len1 cap2 t1 l1 c1 b1 e1 u1 m1 o1) 36)) Y2
  have B2X := Below.al B2 (.cells (cmC k1 i1 s1 z1 n1 q1 a2 len1 cap2 t1 l1 c1 b1 e1 u1 m1 o1) 36)
  have MA2X := ext_al (o := (.cells (cmC k1 i1 s1 z1 n1 q1 a2 len1 cap2 t1 l1 c1 b1 e1 u1 m1 o1) 36)) MA2
  have S12X := S12.next (Below.al (Below.refl _ _) (.cells (cmC k1 i1 s1 z1 n1 q1 a2 len1 cap2 t1 l1 c1 b1 e1 u1 m1 o1) 36))
  have S22X := S22.next (Below.al (Below.refl _ _) (.cells (cmC k1 i1 s1 z1 n1 q1 a2 len1 cap2 t1 l1 c1 b1 e1 u1 m1 o1) 36))
  have MX2X := heap_new w2 (.cells (cmC k1 i1 s1 z1 n1 q1 a2 len1 cap2 t1 l1 c1 b1 e1 u1 m1 o1) 36)
  go_wp2_with (refine wpList_load_by rfl 31 _ rfl _ _ rfl (load8 _ (w.heap.size) _ _ _ _ _ _ _ _ _ Y2X) ?_)
  with_reducible refine (KB.out _).mono ?_
  intro r w3 hp
  obtain ⟨a3, cap3, rfl, ht3, hb⟩ := G2.out _ _ _ hp
  clear hp
  have B3 : Below w.heap.size w w3 := Below.andThen B2X hb
  have Y3 : w3.heap[w.heap.size]? = some (.cells (ar8 y0 y1 y2 y3 y4 y5 y6 y7) 31 (0, 0)) := blkr hb Y2X
  have MA3 := blkr hb MA2X
  have MX3 := blkr hb MX2X
  have S13 := S12X.next hb
  have S23 := S22X.next hb
  have S33 : Row w3 a3 len2 d2 := ht3.row
  have HB3 : Hid (Below (w2.alloc (.cells (cmC k1 i1 s1 z1 n1 q1 a2 len1 cap2 t1 l1 c1 b1 e1 u1 m1 o1) 36)).heap.size (w2.alloc (.cells (cmC k1 i1 s1 z1 n1 q1 a2 len1 cap2 t1 l1 c1 b1 e1 u1 m1 o1) 36)) w3) := hb
  clear hb
  clear ht3
  have Y3X := ext_al (o := (.cells (cmC k2 i2 s2 z2 n2 q2 a3 len2 cap3 t2 l2 c2 b2 e2 u2 m2 o2) 29)) Y3
  have B3X := Below.al B3 (.cells (cmC k2 i2 s2 z2 n2 q2 a3 len2 cap3 t2 l2 c2 b2 e2 u2 m2 o2) 29)
  have MA3X := ext_al (o := (.cells (cmC k2 i2 s2 z2 n2 q2 a3 len2 cap3 t2 l2 c2 b2 e2 u2 m2 o2) 29)) MA3
  have MX3X := ext_al (o := (.cells (cmC k2 i2 s2 z2 n2 q2 a3 len2 cap3 t2 l2 c2 b2 e2 u2 m2 o2) 29)) MX3
  have S13X := S13.next (Below.al (Below.refl _ _) (.cells (cmC k2 i2 s2 z2 n2 q2 a3 len2 cap3 t2 l2 c2 b2 e2 u2 m2 o2) 29))
  have S23X := S23.next (Below.al (Below.refl _ _) (.cells (cmC k2 i2 s2 z2 n2 q2 a3 len2 cap3 t2 l2 c2 b2 e2 u2 m2 o2) 29))
  have S33X := S33.next (Below.al (Below.refl _ _) (.cells (cmC k2 i2 s2 z2 n2 q2 a3 len2 cap3 t2 l2 c2 b2 e2 u2 m2 o2) 29))
  have MC3X := heap_new w3 (.cells (cmC k2 i2 s2 z2 n2 q2 a3 len2 cap3 t2 l2 c2 b2 e2 u2 m2 o2) 29)
  go_wp2_with (refine wpList_load_by rfl 31 _ rfl _ _ rfl (load8 _ (w.heap.size) _ _ _ _ _ _ _ _ _ Y3X) ?_)
  with_reducible refine (KD.out _).mono ?_
  intro r w4 hp
  obtain ⟨a4, cap4, rfl, hr4, hf4, hb⟩ := R2.out _ _ _ hp
  clear hp
  have B4 : Below w.heap.size w w4 := Below.andThen B3X hb
  have Y4 : w4.heap[w.heap.size]? = some (.cells (ar8 y0 y1 y2 y3 y4 y5 y6 y7) 31 (0, 0)) := blkr hb Y3X
  have MA4 := blkr hb MA3X
  have MX4 := blkr hb MX3X
  have MC4 := blkr hb MC3X
  have S14 := S13X.next hb
  have S24 := S23X.next hb
  have S34 := S33X.next hb
  have S44 : Row w4 a4 len2 d2 := hr4
  have HB4 : Hid (Below (w3.alloc (.cells (cmC k2 i2 s2 z2 n2 q2 a3 len2 cap3 t2 l2 c2 b2 e2 u2 m2 o2) 29)).heap.size (w3.alloc (.cells (cmC k2 i2 s2 z2 n2 q2 a3 len2 cap3 t2 l2 c2 b2 e2 u2 m2 o2) 29)) w4) := hb
  clear hb
  have HF4 : Hid (0 < len2 → ∀ b off, a4 = some ⟨b, off, none⟩ → ((w3.alloc (.cells (cmC k2 i2 s2 z2 n2 q2 a3 len2 cap3 t2 l2 c2 b2 e2 u2 m2 o2) 29))).heap.size ≤ b) := hf4
  clear hr4 hf4
  have Y4X := ext_al (o := (.cells (cmC k2 i2 s2 z2 n2 q2 a4 len2 cap4 t2 l2 c2 b2 e2 u2 m2 o2) 36)) Y4
  have B4X := Below.al B4 (.cells (cmC k2 i2 s2 z2 n2 q2 a4 len2 cap4 t2 l2 c2 b2 e2 u2 m2 o2) 36)
  have MA4X := ext_al (o := (.cells (cmC k2 i2 s2 z2 n2 q2 a4 len2 cap4 t2 l2 c2 b2 e2 u2 m2 o2) 36)) MA4
  have MX4X := ext_al (o := (.cells (cmC k2 i2 s2 z2 n2 q2 a4 len2 cap4 t2 l2 c2 b2 e2 u2 m2 o2) 36)) MX4
  have MC4X := ext_al (o := (.cells (cmC k2 i2 s2 z2 n2 q2 a4 len2 cap4 t2 l2 c2 b2 e2 u2 m2 o2) 36)) MC4
  have S14X := S14.next (Below.al (Below.refl _ _) (.cells (cmC k2 i2 s2 z2 n2 q2 a4 len2 cap4 t2 l2 c2 b2 e2 u2 m2 o2) 36))
  have S24X := S24.next (Below.al (Below.refl _ _) (.cells (cmC k2 i2 s2 z2 n2 q2 a4 len2 cap4 t2 l2 c2 b2 e2 u2 m2 o2) 36))
  have S34X := S34.next (Below.al (Below.refl _ _) (.cells (cmC k2 i2 s2 z2 n2 q2 a4 len2 cap4 t2 l2 c2 b2 e2 u2 m2 o2) 36))
  have S44X := S44.next (Below.al (Below.refl _ _) (.cells (cmC k2 i2 s2 z2 n2 q2 a4 len2 cap4 t2 l2 c2 b2 e2 u2 m2 o2) 36))
  have MY4X := heap_new w4 (.cells (cmC k2 i2 s2 z2 n2 q2 a4 len2 cap4 t2 l2 c2 b2 e2 u2 m2 o2) 36)
  have HMA : Hid ((w4.alloc (.cells (cmC k2 i2 s2 z2 n2 q2 a4 len2 cap4 t2 l2 c2 b2 e2 u2 m2 o2) 36)).heap[w1.heap.size]? = some (.cells (cmC k1 i1 s1 z1 n1 q1 a1 len1 cap1 t1 l1 c1 b1 e1 u1 m1 o1) 29 (0, 0))) := MA4X
  have HMX : Hid ((w4.alloc (.cells (cmC k2 i2 s2 z2 n2 q2 a4 len2 cap4 t2 l2 c2 b2 e2 u2 m2 o2) 36)).heap[w2.heap.size]? = some (.cells (cmC k1 i1 s1 z1 n1 q1 a2 len1 cap2 t1 l1 c1 b1 e1 u1 m1 o1) 36 (0, 0))) := MX4X
  have HMC : Hid ((w4.alloc (.cells (cmC k2 i2 s2 z2 n2 q2 a4 len2 cap4 t2 l2 c2 b2 e2 u2 m2 o2) 36)).heap[w3.heap.size]? = some (.cells (cmC k2 i2 s2 z2 n2 q2 a3 len2 cap3 t2 l2 c2 b2 e2 u2 m2 o2) 29 (0, 0))) := MC4X
  have HMY : Hid ((w4.alloc (.cells (cmC k2 i2 s2 z2 n2 q2 a4 len2 cap4 t2 l2 c2 b2 e2 u2 m2 o2) 36)).heap[w4.heap.size]? = some (.cells (cmC k2 i2 s2 z2 n2 q2 a4 len2 cap4 t2 l2 c2 b2 e2 u2 m2 o2) 36 (0, 0))) := MY4X
  have HY : Hid ((w4.alloc (.cells (cmC k2 i2 s2 z2 n2 q2 a4 len2 cap4 t2 l2 c2 b2 e2 u2 m2 o2) 36)).heap[w.heap.size]? = some (.cells (ar8 y0 y1 y2 y3 y4 y5 y6 y7) 31 (0, 0))) := Y4X
  have HB : Hid (Below w.heap.size w (w4.alloc (.cells (cmC k2 i2 s2 z2 n2 q2 a4 len2 cap4 t2 l2 c2 b2 e2 u2 m2 o2) 36))) := B4X
  have HS1 : Hid (Row (w4.alloc (.cells (cmC k2 i2 s2 z2 n2 q2 a4 len2 cap4 t2 l2 c2 b2 e2 u2 m2 o2) 36)) a1 len1 d1) := S14X
  have HS2 : Hid (Row (w4.alloc (.cells (cmC k2 i2 s2 z2 n2 q2 a4 len2 cap4 t2 l2 c2 b2 e2 u2 m2 o2) 36)) a2 len1 d1) := S24X
  have HS3 : Hid (Row (w4.alloc (.cells (cmC k2 i2 s2 z2 n2 q2 a4 len2 cap4 t2 l2 c2 b2 e2 u2 m2 o2) 36)) a3 len2 d2) := S34X
  have HS4 : Hid (Row (w4.alloc (.cells (cmC k2 i2 s2 z2 n2 q2 a4 len2 cap4 t2 l2 c2 b2 e2 u2 m2 o2) 36)) a4 len2 d2) := S44X
  have lw1 : Hid (w.heap.size < w1.heap.size) := (Array.getElem?_eq_some_iff.1 Y1).1
  have l12 : Hid (w1.heap.size < w2.heap.size) := (Array.getElem?_eq_some_iff.1 MA2).1
  have l23 : Hid (w2.heap.size < w3.heap.size) := (Array.getElem?_eq_some_iff.1 MX3).1
  clear Y1 Y1X B1 B1X MA1X S11 S11X Y2 Y2X B2 B2X MA2 MA2X MX2X S12 S12X S22 S22X Y3 Y3X B3 B3X MA3 MA3X MX3 MX3X MC3X S13 S13X S23 S23X S33 S33X Y4 Y4X B4 B4X MA4 MA4X MX4 MX4X MC4 MC4X MY4X S14 S14X S24 S24X S34 S34X S44 S44X
  go_upto_region 5 with fail
  go_cut [55] from 14 (fun sv wx => sv = .bool false ∧ Hid (Below w.heap.size w wx ∧ Below (w4.alloc (.cells (cmC k2 i2 s2 z2 n2 q2 a4 len2 cap4 t2 l2 c2 b2 e2 u2 m2 o2) 36)).heap.size (w4.alloc (.cells (cmC k2 i2 s2 z2 n2 q2 a4 len2 cap4 t2 l2 c2 b2 e2 u2 m2 o2) 36)) wx ∧ wx.heap[w1.heap.size]? = some (.cells (cmC k1 i1 s1 z1 n1 q1 a1 len1 cap1 t1 l1 c1 b1 e1 u1 m1 o1) 29 (0, 0)) ∧ wx.heap[w2.heap.size]? = some (.cells (cmC k1 i1 s1 z1 n1 q1 a2 len1 cap2 t1 l1 c1 b1 e1 u1 m1 o1) 36 (0, 0)) ∧ wx.heap[w3.heap.size]? = some (.cells (cmC k2 i2 s2 z2 n2 q2 a3 len2 cap3 t2 l2 c2 b2 e2 u2 m2 o2) 29 (0, 0)) ∧ wx.heap[w4.heap.size]? = some (.cells (cmC k2 i2 s2 z2 n2 q2 a4 len2 cap4 t2 l2 c2 b2 e2 u2 m2 o2) 36 (0, 0)) ∧ wx.heap[w.heap.size]? = some (.cells (ar8 y0 y1 y2 y3 y4 y5 y6 y7) 31 (0, 0))))
  case first =>
    as_aux_lemma =>
      go_wp2_with fail
      refine wp_region_held_drew (S := fun x => Below w.heap.size w x ∧ Below (w4.alloc (.cells (cmC k2 i2 s2 z2 n2 q2 a4 len2 cap4 t2 l2 c2 b2 e2 u2 m2 o2) 36)).heap.size (w4.alloc (.cells (cmC k2 i2 s2 z2 n2 q2 a4 len2 cap4 t2 l2 c2 b2 e2 u2 m2 o2) 36)) x ∧ x.heap[w1.heap.size]? = some (.cells (cmC k1 i1 s1 z1 n1 q1 a1 len1 cap1 t1 l1 c1 b1 e1 u1 m1 o1) 29 (0, 0)) ∧ x.heap[w2.heap.size]? = some (.cells (cmC k1 i1 s1 z1 n1 q1 a2 len1 cap2 t1 l1 c1 b1 e1 u1 m1 o1) 36 (0, 0)) ∧ x.heap[w3.heap.size]? = some (.cells (cmC k2 i2 s2 z2 n2 q2 a3 len2 cap3 t2 l2 c2 b2 e2 u2 m2 o2) 29 (0, 0)) ∧ x.heap[w4.heap.size]? = some (.cells (cmC k2 i2 s2 z2 n2 q2 a4 len2 cap4 t2 l2 c2 b2 e2 u2 m2 o2) 36 (0, 0)) ∧ x.heap[w.heap.size]? = some (.cells (ar8 y0 y1 y2 y3 y4 y5 y6 y7) 31 (0, 0))) (by kernel_rfl) (⟨Below.drew HB.out, Below.drew (Below.refl _ _), (heap_drew _ _).trans HMA.out, (heap_drew _ _).trans HMX.out, (heap_drew _ _).trans HMC.out, (heap_drew _ _).trans HMY.out, (heap_drew _ _).trans HY.out⟩) (fun hHeld => ?_)
      obtain ⟨hW, hV, hMA, hMX, hMC, hMY, hYY⟩ := id hHeld
      refine tk 0 (.int .i64 ec1) rfl (.inl ⟨by rfl, ?_⟩) ?_
      · intro w9 hSw
        try dsimp only at hSw
        go_simp
        all_goals try decide
        all_goals try assumption
        all_goals try omega
      try simp only [Act.put, gA, gS, gZ, sA, sZ, sS]
      refine tk 1 (.int .i64 ec1) rfl (.inl ⟨by rfl, ?_⟩) ?_
      · intro w9 hSw
        try dsimp only at hSw
        go_simp
        all_goals try decide
        all_goals try assumption
        all_goals try omega
      try simp only [Act.put, gA, gS, gZ, sA, sZ, sS]
      refine tk 2 (.bool false) rfl (.inl ⟨by rfl, ?_⟩) ?_
      · intro w9 hSw
        try dsimp only at hSw
        go_simp
        all_goals try decide
        all_goals try assumption
        all_goals try omega
      try simp only [Act.put, gA, gS, gZ, sA, sZ, sS]
      refine tk 3 (.bool false) rfl (.inl ⟨by rfl, ?_⟩) ?_
      · intro w9 hSw
        try dsimp only at hSw
        go_simp
        all_goals try decide
        all_goals try assumption
        all_goals try omega
      try simp only [Act.put, gA, gS, gZ, sA, sZ, sS]
      refine tk 4 (.int .i64 ec2) rfl (.inl ⟨by rfl, ?_⟩) ?_
      · intro w9 hSw
        try dsimp only at hSw
        go_simp
        all_goals try decide
        all_goals try assumption
        all_goals try omega
      try simp only [Act.put, gA, gS, gZ, sA, sZ, sS]
      refine tk 5 (.int .i64 ec2) rfl (.inl ⟨by rfl, ?_⟩) ?_
      · intro w9 hSw
        try dsimp only at hSw
        go_simp
        all_goals try decide
        all_goals try assumption
        all_goals try omega
      try simp only [Act.put, gA, gS, gZ, sA, sZ, sS]
      refine tk 6 (.bool false) rfl (.inl ⟨by rfl, ?_⟩) ?_
      · intro w9 hSw
        try dsimp only at hSw
        go_simp
        all_goals try decide
        all_goals try assumption
        all_goals try omega
      try simp only [Act.put, gA, gS, gZ, sA, sZ, sS]
      refine tk 7 (.bool false) rfl (.inl ⟨by rfl, ?_⟩) ?_
      · intro w9 hSw
        try dsimp only at hSw
        go_simp
        all_goals try decide
        all_goals try assumption
        all_goals try omega
      try simp only [Act.put, gA, gS, gZ, sA, sZ, sS]
      refine tk 8 (.bool false) rfl (.inl ⟨by rfl, ?_⟩) ?_
      · intro w9 hSw
        try dsimp only at hSw
        go_simp
        all_goals try decide
        all_goals try assumption
        all_goals try omega
      try simp only [Act.put, gA, gS, gZ, sA, sZ, sS]
      refine tk 9 (cmV k1 i1 s1 z1 n1 q1 a1 len1 cap1 t1 l1 c1 b1 e1 u1 m1 o1) rfl (.inl ⟨by rfl, ?_⟩) ?_
      · intro w9 hSw
        try dsimp only at hSw
        exact ex_load 29 (.tmp 3) rfl _ _ rfl (loadCM _ _ _ _ _ _ _ _ _ _ _ _ _ _ _ _ _ _ _ _ hSw.2.2.1)
      try simp only [Act.put, gA, gS, gZ, sA, sZ, sS]
      refine tk 11 (cmV k1 i1 s1 z1 n1 q1 a2 len1 cap2 t1 l1 c1 b1 e1 u1 m1 o1) rfl (.inl ⟨by rfl, ?_⟩) ?_
      · intro w9 hSw
        try dsimp only at hSw
        exact ex_load 36 (.tmp 5) rfl _ _ rfl (loadRC _ _ _ _ _ _ _ _ _ _ _ _ _ _ _ _ _ _ _ _ hSw.2.2.2.1)
      try simp only [Act.put, gA, gS, gZ, sA, sZ, sS]
      refine wpAnyH_ready (rs := [10]) (by kernel_rfl) (by simp) ?_
      refine AllReadyH.cons rfl (fun K' hK => ?_) AllReadyH.nil
      rw [if_pos (by rfl)]
      simp only [gA, gS, gZ]
      go_wp2_with fail
      refine (ref_any k1 i1 s1 z1 n1 q1 a1 len1 cap1 t1 l1 c1 b1 e1 u1 m1 o1 _).mono ?_
      rintro r ww1 ⟨rfl, ob1, ob2, rfl⟩
      try go_wp2_with fail
      refine hK.out _ _ (⟨Below.al (Below.al hW _) _, Below.al (Below.al hV _) _, ext_al (ext_al hMA), ext_al (ext_al hMX), ext_al (ext_al hMC), ext_al (ext_al hMY), ext_al (ext_al hYY)⟩) (fun hHeld => ?_)
      clear hK K'
      try simp only [Act.put, gA, gS, gZ, sA, sZ, sS]
      clear hW hV hMA hMX hMC hMY hYY
      obtain ⟨hW, hV, hMA, hMX, hMC, hMY, hYY⟩ := id hHeld
      refine wpAnyH_ready (rs := [12]) (by kernel_rfl) (by simp) ?_
      refine AllReadyH.cons rfl (fun K' hK => ?_) AllReadyH.nil
      rw [if_pos (by rfl)]
      simp only [gA, gS, gZ]
      go_wp2_with fail
      refine (KS1.out _ a1 a2 cap1 cap2 (HS1.out.next hV) (HS2.out.next hV)).mono ?_
      rintro r ww2 ⟨rfl, ob3, ob4, rfl⟩
      try go_wp2_with fail
      refine hK.out _ _ (⟨Below.al (Below.al hW _) _, Below.al (Below.al hV _) _, ext_al (ext_al hMA), ext_al (ext_al hMX), ext_al (ext_al hMC), ext_al (ext_al hMY), ext_al (ext_al hYY)⟩) (fun hHeld => ?_)
      clear hK K'
      try simp only [Act.put, gA, gS, gZ, sA, sZ, sS]
      clear hW hV hMA hMX hMC hMY hYY
      obtain ⟨hW, hV, hMA, hMX, hMC, hMY, hYY⟩ := id hHeld
      refine tk 13 (.bool false) rfl (.inl ⟨by rfl, ?_⟩) ?_
      · intro w9 hSw
        try dsimp only at hSw
        go_simp
        all_goals try decide
        all_goals try assumption
        all_goals try omega
      try simp only [Act.put, gA, gS, gZ, sA, sZ, sS]
      refine tk 14 (.bool false) rfl (.inl ⟨by rfl, ?_⟩) ?_
      · intro w9 hSw
        try dsimp only at hSw
        go_simp
        all_goals try decide
        all_goals try assumption
        all_goals try omega
      try simp only [Act.put, gA, gS, gZ, sA, sZ, sS]
      refine tk 15 (.bool false) rfl (.inl ⟨by rfl, ?_⟩) ?_
      · intro w9 hSw
        try dsimp only at hSw
        go_simp
        all_goals try decide
        all_goals try assumption
        all_goals try omega
      try simp only [Act.put, gA, gS, gZ, sA, sZ, sS]
      refine tk 16 (cmV k2 i2 s2 z2 n2 q2 a3 len2 cap3 t2 l2 c2 b2 e2 u2 m2 o2) rfl (.inl ⟨by rfl, ?_⟩) ?_
      · intro w9 hSw
        try dsimp only at hSw
        exact ex_load 29 (.tmp 7) rfl _ _ rfl (loadCM _ _ _ _ _ _ _ _ _ _ _ _ _ _ _ _ _ _ _ _ hSw.2.2.2.2.1)
      try simp only [Act.put, gA, gS, gZ, sA, sZ, sS]
      refine tk 18 (cmV k2 i2 s2 z2 n2 q2 a4 len2 cap4 t2 l2 c2 b2 e2 u2 m2 o2) rfl (.inl ⟨by rfl, ?_⟩) ?_
      · intro w9 hSw
        try dsimp only at hSw
        exact ex_load 36 (.tmp 9) rfl _ _ rfl (loadRC _ _ _ _ _ _ _ _ _ _ _ _ _ _ _ _ _ _ _ _ hSw.2.2.2.2.2.1)
      try simp only [Act.put, gA, gS, gZ, sA, sZ, sS]
      refine wpAnyH_ready (rs := [17]) (by kernel_rfl) (by simp) ?_
      refine AllReadyH.cons rfl (fun K' hK => ?_) AllReadyH.nil
      rw [if_pos (by rfl)]
      simp only [gA, gS, gZ]
      go_wp2_with fail
      refine (ref_any k2 i2 s2 z2 n2 q2 a3 len2 cap3 t2 l2 c2 b2 e2 u2 m2 o2 _).mono ?_
      rintro r ww3 ⟨rfl, ob5, ob6, rfl⟩
      try go_wp2_with fail
      refine hK.out _ _ (⟨Below.al (Below.al hW _) _, Below.al (Below.al hV _) _, ext_al (ext_al hMA), ext_al (ext_al hMX), ext_al (ext_al hMC), ext_al (ext_al hMY), ext_al (ext_al hYY)⟩) (fun hHeld => ?_)
      clear hK K'
      try simp only [Act.put, gA, gS, gZ, sA, sZ, sS]
      clear hW hV hMA hMX hMC hMY hYY
      obtain ⟨hW, hV, hMA, hMX, hMC, hMY, hYY⟩ := id hHeld
      refine wpAnyH_ready (rs := [19]) (by kernel_rfl) (by simp) ?_
      refine AllReadyH.cons rfl (fun K' hK => ?_) AllReadyH.nil
      rw [if_pos (by rfl)]
      simp only [gA, gS, gZ]
      go_wp2_with fail
      refine (KS2.out _ a3 a4 cap3 cap4 (HS3.out.next hV) (HS4.out.next hV)).mono ?_
      rintro r ww4 ⟨rfl, ob7, ob8, rfl⟩
      try go_wp2_with fail
      refine hK.out _ _ (⟨Below.al (Below.al hW _) _, Below.al (Below.al hV _) _, ext_al (ext_al hMA), ext_al (ext_al hMX), ext_al (ext_al hMC), ext_al (ext_al hMY), ext_al (ext_al hYY)⟩) (fun hHeld => ?_)
      clear hK K'
      try simp only [Act.put, gA, gS, gZ, sA, sZ, sS]
      clear hW hV hMA hMX hMC hMY hYY
      obtain ⟨hW, hV, hMA, hMX, hMC, hMY, hYY⟩ := id hHeld
      refine tk 20 (.bool false) rfl (.inl ⟨by rfl, ?_⟩) ?_
      · intro w9 hSw
        try dsimp only at hSw
        go_simp
        all_goals try decide
        all_goals try assumption
        all_goals try omega
      try simp only [Act.put, gA, gS, gZ, sA, sZ, sS]
      refine tk 21 (.bool false) rfl (.inl ⟨by rfl, ?_⟩) ?_
      · intro w9 hSw
        try dsimp only at hSw
        go_simp
        all_goals try decide
        all_goals try assumption
        all_goals try omega
      try simp only [Act.put, gA, gS, gZ, sA, sZ, sS]
      refine wpAnyH_done (by kernel_rfl) ?_ _
      go_wp2_with fail
      go_meet
      exact ⟨rfl, hHeld⟩
  case rest =>
    obtain ⟨rfl, hF⟩ := hcut
    have HFF : Hid _ := hF
    clear hF
    obtain ⟨hW, hV, hMA, hMX, hMC, hMY, hYY⟩ := HFF.out
    skip
    have KE : ∀ g, g < w1.heap.size → wc.heap[g]? = w1.heap[g]? := fun g hg => keep_all hg HB2.out HB3.out HB4.out hV
    have hg1 : 0 < len1 → ∀ b off, a1 = some ⟨b, off, none⟩ → b < w1.heap.size ∧ w.heap.size < b := fun hp b off e => ⟨T1.out.row.old hp b off e, by obtain ⟨g, e', hgg, _⟩ := T1.out.own hp; rw [e] at e'; cases e'; simp at hgg; omega⟩
    have T5 : Hid (LW a1 len1 wc wc) := LW.start (T1.out.keep (Nat.le_refl _) (fun g _ h2 => KE g h2))
    have HG1 : Hid _ := hg1
    have hb2f : Hid (0 < len1 → ∀ b off, a2 = some ⟨b, off, none⟩ → w1.heap.size < b) := fun hp b off e => by have := HF2.out hp b off e; simp at this; omega
    have RS2 : Hid (Row wc a2 len1 d1) := HS2.out.next hV
    have QA : Hid _ := hMA
    have QX : Hid _ := hMX
    have QY : Hid _ := hYY
    have QW : Hid _ := hW
    clear KE hg1 hW hV hMA hMX hMC hMY hYY HFF HMA HMX HMC HMY HY HB HB2 HB3 HB4 HS1 HS2 HS3 HS4 HF2 HF4 T1 KB KC KD G2 R1 R2 KS2
    go_wp2_with fail
    go_loopw [11] (fun id wr => ∃ j : Nat, id = .int .i64 (j : Int) ∧ j ≤ len1 ∧ Hid (LW a1 len1 wc wr)) (fun id _ => len1 - (intOf id).toNat)
    case atStart => exact ⟨0, rfl, Nat.zero_le _, T5⟩
    case round =>
      obtain ⟨j, rfl, hj, HL⟩ := hrel
      have neA : 0 < len1 → ∀ b off, a1 = some ⟨b, off, none⟩ → w1.heap.size ≠ b := fun hp b off e => Nat.ne_of_gt (HG1.out hp b off e).1
      have neY : 0 < len1 → ∀ b off, a1 = some ⟨b, off, none⟩ → w.heap.size ≠ b := fun hp b off e => Nat.ne_of_lt (HG1.out hp b off e).2
      have neX : 0 < len1 → ∀ b off, a1 = some ⟨b, off, none⟩ → w2.heap.size ≠ b := fun hp b off e => by have h1 := (HG1.out hp b off e).1; have h2 := l12.out; omega
      have mA := (HL.out.far _ neA).trans QA.out
      have mY := (HL.out.far _ neY).trans QY.out
      have mX := (HL.out.far _ neX).trans QX.out
      clear neA neY neX
      have cA : wr.cell? ⟨w1.heap.size, 6, none⟩ = some (.slice a1 len1 cap1) := by rw [cell_of_row _ _ 6 _ _ _ mA]; rfl
      by_cases hjl : (j : Int) < (len1 : Int)
      · have hjn : j < len1 := by omega
        have eJ : IntKind.i64.wrap ((j : Int) + 1) = ((j + 1 : Nat) : Int) := by rw [wrapI64 _ (by omega) (by have hm := hmax.out; unfold maxLen at hm; omega)]; omega
        obtain ⟨g, hg, hcs⟩ := HL.out.own (by omega)
        obtain ⟨⟨v, hv⟩, hz⟩ := hcs j hjn
        subst hg
        clear hcs mX mY mA
        go_wp2_with fail
        exact ⟨⟨j + 1, rfl, by omega, HL.out.step hjn⟩, by simp only [intOf]; omega⟩
      · as_aux_lemma =>
          have BL : Below w.heap.size w wr := lw_below QW.out HL.out HG1.out
          have SR : Row wr a2 len1 d1 := HL.out.row RS2.out (fun hp hp2 b off b' off' e e' => by have h1 := hb2f.out hp b' off' e; have h2 := (HG1.out hp2 b off e').1; omega)
          go_wp2_with (refine wpList_load_by rfl 31 _ rfl _ _ rfl (load8 _ (w.heap.size) _ _ _ _ _ _ _ _ _ mY) ?_)
          with_reducible refine (KA.out _).mono ?_
          intro r w7 hp
          obtain ⟨a7, cap7, rfl, ht7, hb⟩ := G1.out _ _ _ hp
          clear hp
          have B7 := Below.al (Below.andThen BL hb) (.cells (cmC k1 i1 s1 z1 n1 q1 a7 len1 cap7 t1 l1 c1 b1 e1 u1 m1 o1) 29)
          have S7 : Row (w7.alloc (.cells (cmC k1 i1 s1 z1 n1 q1 a7 len1 cap7 t1 l1 c1 b1 e1 u1 m1 o1) 29)) a7 len1 d1 := ht7.row.next (Below.al (Below.refl _ _) _)
          have S2 : Row (w7.alloc (.cells (cmC k1 i1 s1 z1 n1 q1 a7 len1 cap7 t1 l1 c1 b1 e1 u1 m1 o1) 29)) a2 len1 d1 := (SR.next hb).next (Below.al (Below.refl _ _) _)
          have M7 := heap_new w7 (.cells (cmC k1 i1 s1 z1 n1 q1 a7 len1 cap7 t1 l1 c1 b1 e1 u1 m1 o1) 29)
          have MX7 := ext_al (o := (.cells (cmC k1 i1 s1 z1 n1 q1 a7 len1 cap7 t1 l1 c1 b1 e1 u1 m1 o1) 29)) (blkr hb mX)
          clear hb ht7 cA mA mY mX SR BL
          go_wp2_with fail
          refine wp_region_held_drew (S := fun x => Below w.heap.size w x ∧ Below (w7.alloc (.cells (cmC k1 i1 s1 z1 n1 q1 a7 len1 cap7 t1 l1 c1 b1 e1 u1 m1 o1) 29)).heap.size (w7.alloc (.cells (cmC k1 i1 s1 z1 n1 q1 a7 len1 cap7 t1 l1 c1 b1 e1 u1 m1 o1) 29)) x ∧ x.heap[w7.heap.size]? = some (.cells (cmC k1 i1 s1 z1 n1 q1 a7 len1 cap7 t1 l1 c1 b1 e1 u1 m1 o1) 29 (0, 0)) ∧ x.heap[w2.heap.size]? = some (.cells (cmC k1 i1 s1 z1 n1 q1 a2 len1 cap2 t1 l1 c1 b1 e1 u1 m1 o1) 36 (0, 0))) (by kernel_rfl) (⟨Below.drew B7, Below.drew (Below.refl _ _), (heap_drew _ _).trans M7, (heap_drew _ _).trans MX7⟩) (fun hHeld => ?_)
          obtain ⟨hW, hV, hM, hX⟩ := id hHeld
          refine tk 0 (cmV k1 i1 s1 z1 n1 q1 a7 len1 cap7 t1 l1 c1 b1 e1 u1 m1 o1) rfl (.inl ⟨by rfl, ?_⟩) ?_
          · intro w9 hSw
            try dsimp only at hSw
            exact ex_load 29 (.tmp 12) rfl _ _ rfl (loadCM _ _ _ _ _ _ _ _ _ _ _ _ _ _ _ _ _ _ _ _ hSw.2.2.1)
          try simp only [Act.put, gA, gS, gZ, sA, sZ, sS]
          refine tk 2 (cmV k1 i1 s1 z1 n1 q1 a2 len1 cap2 t1 l1 c1 b1 e1 u1 m1 o1) rfl (.inl ⟨by rfl, ?_⟩) ?_
          · intro w9 hSw
            try dsimp only at hSw
            exact ex_load 36 (.tmp 5) rfl _ _ rfl (loadRC _ _ _ _ _ _ _ _ _ _ _ _ _ _ _ _ _ _ _ _ hSw.2.2.2)
          try simp only [Act.put, gA, gS, gZ, sA, sZ, sS]
          refine wpAnyH_ready (rs := [1]) (by kernel_rfl) (by simp) ?_
          refine AllReadyH.cons rfl (fun K' hK => ?_) AllReadyH.nil
          rw [if_pos (by rfl)]
          simp only [gA, gS, gZ]
          go_wp2_with fail
          refine (ref_any k1 i1 s1 z1 n1 q1 a7 len1 cap7 t1 l1 c1 b1 e1 u1 m1 o1 _).mono ?_
          rintro r ww1 ⟨rfl, ob1, ob2, rfl⟩
          try go_wp2_with fail
          refine hK.out _ _ (⟨Below.al (Below.al hW _) _, Below.al (Below.al hV _) _, ext_al (ext_al hM), ext_al (ext_al hX)⟩) (fun hHeld => ?_)
          clear hK K'
          try simp only [Act.put, gA, gS, gZ, sA, sZ, sS]
          clear hW hV hM hX
          obtain ⟨hW, hV, hM, hX⟩ := id hHeld
          refine wpAnyH_ready (rs := [3]) (by kernel_rfl) (by simp) ?_
          refine AllReadyH.cons rfl (fun K' hK => ?_) AllReadyH.nil
          rw [if_pos (by rfl)]
          simp only [gA, gS, gZ]
          go_wp2_with fail
          refine (KS1.out _ a7 a2 cap7 cap2 (S7.next hV) (S2.next hV)).mono ?_
          rintro r ww2 ⟨rfl, ob3, ob4, rfl⟩
          try go_wp2_with fail
          refine hK.out _ _ (⟨Below.al (Below.al hW _) _, Below.al (Below.al hV _) _, ext_al (ext_al hM), ext_al (ext_al hX)⟩) (fun hHeld => ?_)
          clear hK K'
          try simp only [Act.put, gA, gS, gZ, sA, sZ, sS]
          clear hW hV hM hX
          obtain ⟨hW, hV, hM, hX⟩ := id hHeld
          refine tk 4 (.bool true) rfl (.inl ⟨by rfl, ?_⟩) ?_
          · intro w9 hSw
            try dsimp only at hSw
            go_simp
            all_goals try decide
            all_goals try assumption
            all_goals try omega
          try simp only [Act.put, gA, gS, gZ, sA, sZ, sS]
          refine wpAnyH_ready (rs := [5]) (by kernel_rfl) (by simp) ?_
          refine AllReadyH.cons rfl (fun K' hK => ?_) AllReadyH.nil
          rw [if_pos (by rfl)]
          simp only [gA, gS, gZ]
          go_wp2_with fail
          refine (works_any _).mono ?_
          rintro r ww3 ⟨rfl, hbw⟩
          try go_wp2_with fail
          refine hK.out _ _ (⟨Below.andThen hW hbw, Below.andThen hV hbw, blkr hbw hM, blkr hbw hX⟩) (fun hHeld => ?_)
          clear hK K'
          try simp only [Act.put, gA, gS, gZ, sA, sZ, sS]
          clear hW hV hM hX
          obtain ⟨hW, hV, hM, hX⟩ := id hHeld
          refine tk 6 (.bool true) rfl (.inl ⟨by rfl, ?_⟩) ?_
          · intro w9 hSw
            try dsimp only at hSw
            go_simp
            all_goals try decide
            all_goals try assumption
            all_goals try omega
          try simp only [Act.put, gA, gS, gZ, sA, sZ, sS]
          refine tk 7 (.bool true) rfl (.inl ⟨by rfl, ?_⟩) ?_
          · intro w9 hSw
            try dsimp only at hSw
            go_simp
            all_goals try decide
            all_goals try assumption
            all_goals try omega
          try simp only [Act.put, gA, gS, gZ, sA, sZ, sS]
          refine wpAnyH_done (by kernel_rfl) ?_ _
          have hWf := hW
          clear hHeld
          go_wp2_with fail
          go_ret
          exact ⟨rfl, hWf⟩
#print axioms shortReads_any
end Go.Proofs.Ytlnlejdjekbipaa
namespace Go.Proofs.Ytlnlejdjekbipaa
open Go.RowKit

theorem same_it (a0 a1 a2 a3 a4 a5 a6 a7 : Int) : same8 a0 a1 a2 a3 a4 a5 a6 a7 a0 a1 a2 a3 a4 a5 a6 a7 = true := by simp [same8]
theorem bytes_gen (O : Option B8) : ∃ x0 x1 x2 x3 x4 x5 x6 x7 ec : Int, (∀ W r w', BPost W O r w' → r = .returned (.tuple #[arr8 x0 x1 x2 x3 x4 x5 x6 x7, .int .i64 ec]) ∧ Below W.heap.size W w') ∧ ((O = some ⟨x0, x1, x2, x3, x4, x5, x6, x7⟩ ∧ ec = 0) ∨ (O = none ∧ ec = 2)) := by
  cases O with
  | none => exact ⟨0, 0, 0, 0, 0, 0, 0, 0, 2, fun W r w' h => h, .inr ⟨rfl, rfl⟩⟩
  | some x => exact ⟨x.b0, x.b1, x.b2, x.b3, x.b4, x.b5, x.b6, x.b7, 0, fun W r w' h => h, .inl ⟨rfl, rfl⟩⟩

set_option maxRecDepth 100000 in
theorem own_any (a : Option Addr) (len cap : Nat) (zs : List Int) (w : World) (hr : Row w a len zs) (hl : len ≤ 16777216) :
    Calls Try.prog 8 #[.slice a len cap] w fun e w' => (∃ a' cap', e = .returned (.slice a' len cap') ∧ Row w' a' len zs ∧ ∀ b off, a' = some ⟨b, off, none⟩ → w.heap.size ≤ b) ∧ Below w.heap.size w w' := by
  go_enter Try.func8, Try.ntmps8
  go_wp2_with (at_builtin; refine wpList_append_nil rfl _ _ rfl rfl _ _ _ zs rfl hr hl ?_)
  intro a' cap' w' h1 h2 h3 h4 h5
  go_wp2_with fail
  go_ret
  exact ⟨⟨_, _, rfl, h3, fun b off e => Nat.le_of_eq (h4 b off e).1.symm⟩, h5⟩
theorem blk {W W' : World} {j : Nat} {v : Obj} (hb : Below W.heap.size W W') (h : W.heap[j]? = some v) : W'.heap[j]? = some v := (hb.block _ (Array.getElem?_eq_some_iff.1 h).1).trans h
theorem row_set {w : World} {a : Option Addr} {len : Nat} {zs : List Int} (h : Row w a len zs) (B : Nat) (cs : Array Value) (hB : ∀ b off, a = some ⟨b, off, none⟩ → b ≠ B) : Row (w.setRow B cs) a len zs :=
  ⟨h.size, h.oct, fun hp => by
    obtain ⟨b, off, e, hc⟩ := h.at_ hp
    exact ⟨b, off, e, fun i hi => by rw [World.cell?_of_block (w := w) (setRow_other _ _ _ _ (hB b off e))]; exact hc i hi⟩⟩
theorem storeS (w : World) (B j : Nat) (a : Option Addr) (len cap : Nat) (C D : Array Value) (T : TypeId) (h : w.heap[B]? = some (.cells C T (0, 0))) (hC : C.size = 15) (hj : j < 15) (hD : (C.toList.take j ++ [Value.slice a len cap] ++ C.toList.drop (j + 1)).toArray = D) : (storeVar 26 ⟨B, j, none⟩ (.slice a len cap)).run Try.prog w = .ok () (w.setRow B D) := by
  subst hD
  have he : (Try.prog.info? 26).map (·.size) = some 1 := by kernel_rfl
  cases hq : Try.prog.info? 26 with
  | none => simp [hq] at he
  | some i =>
    have hi : i.size = 1 := by simpa [hq] using he
    have := run_storeCells_at Try.prog B j T [.slice a len cap] 0 C w h (by simp; omega) (by simp [Value.oneCell'])
    simpa [storeVar, Value.cells, sizeOf, typeInfo, hq, hi, Result.andThen] using this

set_option linter.unusedSimpArgs false in
set_option maxHeartbeats 20000000 in
set_option maxRecDepth 100000 in
theorem shortWrites_any (C : Cm) (ok : C.Ok) (a : Option Addr) (cap : Nat) (w : World) (hr : Row w a C.d.length C.d) :
    Calls Try.prog 3 #[C.v a C.d.length cap] w fun e w' => e = .returned (.bool true) ∧ Below w.heap.size w w' := by
  by_cases hg : 100 < C.d.length
  · have hg1 : 100 < (C.d.length : Int) := by omega
    generalize C.d.length = len at hg1 ⊢
    clear hr hg ok
    go_enter Try.func3, Try.ntmps3
    go_wp2_with fail
    go_ret
    exact ⟨rfl, (by repeat (first | exact Below.refl _ _ | apply Below.drew | apply Below.al))⟩
  have hl : C.d.length ≤ 1000 := by omega
  have hg1 : ¬ 100 < (C.d.length : Int) := by omega
  have K0 : Hid (∀ W, Below w.heap.size w W → Calls Try.prog 8 #[.slice a C.d.length cap] W fun e w' => (∃ a' cap', e = .returned (.slice a' C.d.length cap') ∧ Row w' a' C.d.length C.d ∧ ∀ b off, a' = some ⟨b, off, none⟩ → W.heap.size ≤ b) ∧ Below W.heap.size W w') := fun W hb => own_any a _ cap C.d W (hr.next hb) (by omega)
  have K1 : Hid (∀ W a5 cap5, Row W a5 C.d.length C.d → Calls Try.prog 9 #[cmV C.k C.i C.s C.z C.n C.q a5 C.d.length cap5 C.t C.l C.c C.b C.e C.u C.m C.o] W (BPost W (askP C))) := fun W a5 cap5 h => ask_any C ok a5 cap5 W h
  have K2 : Hid (∀ W, Below w.heap.size w W → Calls Try.prog 10 #[cmV C.k C.i C.s C.z C.n C.q a C.d.length cap C.t C.l C.c C.b C.e C.u C.m C.o, .bool false] W (BPost W (askP C))) := fun W hb => rbytes_askP C ok a cap hl W (hr.next hb)
  have K3 : Hid (∀ W a5 cap5, Row W a5 C.d.length C.d → Calls Try.prog 12 #[cmV C.k C.i C.s C.z C.n C.q a5 C.d.length cap5 C.t C.l C.c C.b C.e C.u C.m C.o] W (BPost W (ansP C))) := fun W a5 cap5 h => answer_any C ok a5 cap5 W h
  have K4 : Hid (∀ W, Below w.heap.size w W → Calls Try.prog 10 #[cmV C.k C.i C.s C.z C.n C.q a C.d.length cap C.t C.l C.c C.b C.e C.u C.m C.o, .bool true] W (BPost W (ansP C))) := fun W hb => rbytes_ansP C ok a cap hl W (hr.next hb)
  have K5 : Hid (∀ W a5 cap5, Below w.heap.size w W → Row W a5 C.d.length C.d → Calls Try.prog 13 #[.slice a C.d.length cap, .slice a5 C.d.length cap5] W fun e w' => e = .returned (.bool true) ∧ w' = W) := fun W a5 cap5 hb h => by
    have := same_bytes a a5 C.d.length cap C.d.length cap5 C.d C.d W (hr.next hb) h
    rw [beq_self_eq_true] at this
    exact this
  obtain ⟨xa0, xa1, xa2, xa3, xa4, xa5, xa6, xa7, ca, PA, _⟩ := bytes_gen (askP C)
  obtain ⟨xc0, xc1, xc2, xc3, xc4, xc5, xc6, xc7, cc, PC, _⟩ := bytes_gen (ansP C)
  have HPA : Hid _ := PA
  have HPC : Hid _ := PC
  clear PA PC
  generalize askP C = OA at K1 K2 HPA
  generalize ansP C = OC at K3 K4 HPC
  have hm1 := same_it xa0 xa1 xa2 xa3 xa4 xa5 xa6 xa7
  have hm2 := same_it xc0 xc1 xc2 xc3 xc4 xc5 xc6 xc7
  have hq8 := eql8
  clear hr ok hl hg
  obtain ⟨len, hlen⟩ : ∃ len, C.d.length = len := ⟨_, rfl⟩
  rw [hlen] at K0 K1 K2 K3 K4 K5 hg1 ⊢
  obtain ⟨k, i, s, z, n, q, d, t, l, c, b, e, u, m, o⟩ := C
  dsimp only at K0 K1 K2 K3 K4 K5 ⊢
  clear hlen
  go_enter Try.func3, Try.ntmps3
  go_wp2_with fail
  with_reducible refine (K0.out _ (by repeat (first | assumption | exact Below.refl _ _ | apply Below.drew | apply Below.al))).mono ?_
  rintro r w1 ⟨⟨a5, cap5, rfl, hr5, hn5⟩, hb⟩
  have B1 : Below w.heap.size w w1 := Below.andThen (by repeat (first | assumption | exact Below.refl _ _ | apply Below.drew | apply Below.al)) hb
  have C1 : w1.heap[w.heap.size]? = some (.cells (cmC k i s z n q a len cap t l c b e u m o) 29 (0, 0)) := blk hb (ext_al (heap_new _ _))
  have D1 : w1.heap[w.heap.size + 1]? = some (.cells (cmC k i s z n q a len cap t l c b e u m o) 29 (0, 0)) := blk hb (heap_at _ _ _ (by simp))
  clear hb
  have l1 := (Array.getElem?_eq_some_iff.1 D1).1
  have D2 : (w1.setRow (w.heap.size + 1) (cmC k i s z n q a5 len cap5 t l c b e u m o)).heap[w.heap.size + 1]? = some (.cells (cmC k i s z n q a5 len cap5 t l c b e u m o) 29 (0, 0)) := setRow_heap _ _ _ _ _ _ D1
  have C2 : (w1.setRow (w.heap.size + 1) (cmC k i s z n q a5 len cap5 t l c b e u m o)).heap[w.heap.size]? = some (.cells (cmC k i s z n q a len cap t l c b e u m o) 29 (0, 0)) := (setRow_other _ _ _ _ (by omega)).trans C1
  have B2 : Below w.heap.size w (w1.setRow (w.heap.size + 1) (cmC k i s z n q a5 len cap5 t l c b e u m o)) := below_setRow B1 (Nat.le_succ _) _
  have HR5 : Hid (Row (w1.setRow (w.heap.size + 1) (cmC k i s z n q a5 len cap5 t l c b e u m o)) a5 len d) := row_set hr5 _ _ (fun b off e => by have h9 := hn5 b off e; simp at h9; omega)
  clear hr5 hn5
  go_wp2_with (first | (refine wpList_store_by rfl 26 _ _ rfl _ _ rfl rfl (storeS w1 (w.heap.size + 1) 6 _ _ _ _ (cmC k i s z n q a5 len cap5 t l c b e u m o) _ D1 rfl (by decide) rfl) ?_) | (refine wpList_load_by rfl 29 _ rfl _ _ rfl (loadCM _ (w.heap.size + 1) _ _ _ _ _ _ _ _ _ _ _ _ _ _ _ _ _ _ D2) ?_))
  with_reducible refine (K1.out _ a5 cap5 HR5.out).mono ?_
  intro r w2 hpp
  obtain ⟨rfl, hb⟩ := HPA.out _ _ _ hpp
  clear hpp
  have B3 := Below.andThen B2 hb
  have C3 := blk hb C2
  have D3 := blk hb D2
  have R3 : Hid (Row w2 a5 len d) := HR5.out.next hb
  clear hb
  have B4 := Below.al B3 (.cells (ar8 xa0 xa1 xa2 xa3 xa4 xa5 xa6 xa7) 31)
  have C4 := ext_al (o := .cells (ar8 xa0 xa1 xa2 xa3 xa4 xa5 xa6 xa7) 31) C3
  have D4 := ext_al (o := .cells (ar8 xa0 xa1 xa2 xa3 xa4 xa5 xa6 xa7) 31) D3
  have X4 := heap_new w2 (.cells (ar8 xa0 xa1 xa2 xa3 xa4 xa5 xa6 xa7) 31)
  have R4 : Hid (Row (w2.alloc (.cells (ar8 xa0 xa1 xa2 xa3 xa4 xa5 xa6 xa7) 31)) a5 len d) := R3.out.next (Below.al (Below.refl _ _) _)
  go_wp2_with (refine wpList_load_by rfl 29 _ rfl _ _ rfl (loadCM _ (w.heap.size) _ _ _ _ _ _ _ _ _ _ _ _ _ _ _ _ _ _ C4) ?_)
  with_reducible refine (ref_any k i s z n q a len cap t l c b e u m o _).mono ?_
  rintro r ww ⟨rfl, p1, p2, rfl⟩
  go_wp2_with fail
  with_reducible refine (K2.out _ (Below.al (Below.al B4 _) _)).mono ?_
  intro r w3 hpp
  obtain ⟨rfl, hb⟩ := HPA.out _ _ _ hpp
  clear hpp
  have C5 := blk hb (ext_al (ext_al C4))
  have D5 := blk hb (ext_al (ext_al D4))
  have X5 := blk hb (ext_al (ext_al X4))
  have B5 := Below.andThen (Below.al (Below.al B4 _) _) hb
  have R5 : Hid (Row w3 a5 len d) := (R4.out.next (Below.al (Below.al (Below.refl _ _) p1) p2)).next hb
  clear hb
  have B6 := Below.al B5 (.cells (ar8 xa0 xa1 xa2 xa3 xa4 xa5 xa6 xa7) 31)
  have C6 := ext_al (o := (.cells (ar8 xa0 xa1 xa2 xa3 xa4 xa5 xa6 xa7) 31)) C5
  have D6 := ext_al (o := (.cells (ar8 xa0 xa1 xa2 xa3 xa4 xa5 xa6 xa7) 31)) D5
  have X6 := ext_al (o := (.cells (ar8 xa0 xa1 xa2 xa3 xa4 xa5 xa6 xa7) 31)) X5
  have Y6 := heap_new w3 (.cells (ar8 xa0 xa1 xa2 xa3 xa4 xa5 xa6 xa7) 31)
  have R6 : Hid (Row (w3.alloc (.cells (ar8 xa0 xa1 xa2 xa3 xa4 xa5 xa6 xa7) 31)) a5 len d) := R5.out.next (Below.al (Below.refl _ _) _)
  go_wp2_with (refine wpList_load_by rfl 29 _ rfl _ _ rfl (loadCM _ (w.heap.size + 1) _ _ _ _ _ _ _ _ _ _ _ _ _ _ _ _ _ _ D6) ?_)
  with_reducible refine (K3.out _ a5 cap5 R6.out).mono ?_
  intro r w4 hpp
  obtain ⟨rfl, hb⟩ := HPC.out _ _ _ hpp
  clear hpp
  have C7 := blk hb C6
  have D7 := blk hb D6
  have X7 := blk hb X6
  have Y7 := blk hb Y6
  have B7 := Below.andThen B6 hb
  have R7 : Hid (Row w4 a5 len d) := R6.out.next hb
  clear hb
  have B8 := Below.al B7 (.cells (ar8 xc0 xc1 xc2 xc3 xc4 xc5 xc6 xc7) 31)
  have C8 := ext_al (o := (.cells (ar8 xc0 xc1 xc2 xc3 xc4 xc5 xc6 xc7) 31)) C7
  have D8 := ext_al (o := (.cells (ar8 xc0 xc1 xc2 xc3 xc4 xc5 xc6 xc7) 31)) D7
  have X8 := ext_al (o := (.cells (ar8 xc0 xc1 xc2 xc3 xc4 xc5 xc6 xc7) 31)) X7
  have Y8 := ext_al (o := (.cells (ar8 xc0 xc1 xc2 xc3 xc4 xc5 xc6 xc7) 31)) Y7
  have U8 := heap_new w4 (.cells (ar8 xc0 xc1 xc2 xc3 xc4 xc5 xc6 xc7) 31)
  have R8 : Hid (Row (w4.alloc (.cells (ar8 xc0 xc1 xc2 xc3 xc4 xc5 xc6 xc7) 31)) a5 len d) := R7.out.next (Below.al (Below.refl _ _) _)
  go_wp2_with (refine wpList_load_by rfl 29 _ rfl _ _ rfl (loadCM _ (w.heap.size) _ _ _ _ _ _ _ _ _ _ _ _ _ _ _ _ _ _ C8) ?_)
  with_reducible refine (ref_any k i s z n q a len cap t l c b e u m o _).mono ?_
  rintro r ww ⟨rfl, p3, p4, rfl⟩
  go_wp2_with fail
  with_reducible refine (K4.out _ (Below.al (Below.al B8 _) _)).mono ?_
  intro r w5 hpp
  obtain ⟨rfl, hb⟩ := HPC.out _ _ _ hpp
  clear hpp
  have C9 := blk hb (ext_al (ext_al C8))
  have D9 := blk hb (ext_al (ext_al D8))
  have X9 := blk hb (ext_al (ext_al X8))
  have Y9 := blk hb (ext_al (ext_al Y8))
  have U9 := blk hb (ext_al (ext_al U8))
  have B9 := Below.andThen (Below.al (Below.al B8 _) _) hb
  have R9 : Hid (Row w5 a5 len d) := (R8.out.next (Below.al (Below.al (Below.refl _ _) p3) p4)).next hb
  clear hb
  have B10 := Below.al B9 (.cells (ar8 xc0 xc1 xc2 xc3 xc4 xc5 xc6 xc7) 31)
  have C10 := ext_al (o := (.cells (ar8 xc0 xc1 xc2 xc3 xc4 xc5 xc6 xc7) 31)) C9
  have D10 := ext_al (o := (.cells (ar8 xc0 xc1 xc2 xc3 xc4 xc5 xc6 xc7) 31)) D9
  have X10 := ext_al (o := (.cells (ar8 xc0 xc1 xc2 xc3 xc4 xc5 xc6 xc7) 31)) X9
  have Y10 := ext_al (o := (.cells (ar8 xc0 xc1 xc2 xc3 xc4 xc5 xc6 xc7) 31)) Y9
  have U10 := ext_al (o := (.cells (ar8 xc0 xc1 xc2 xc3 xc4 xc5 xc6 xc7) 31)) U9
  have V10 := heap_new w5 (.cells (ar8 xc0 xc1 xc2 xc3 xc4 xc5 xc6 xc7) 31)
  have R10 : Hid (Row (w5.alloc (.cells (ar8 xc0 xc1 xc2 xc3 xc4 xc5 xc6 xc7) 31)) a5 len d) := R9.out.next (Below.al (Below.refl _ _) _)
  have f1 : (w5.alloc (.cells (ar8 xc0 xc1 xc2 xc3 xc4 xc5 xc6 xc7) 31)).cell? ⟨w.heap.size, 6, none⟩ = some (.slice a len cap) := by rw [cell_of_row _ _ 6 _ _ _ C10]; rfl
  have f2 : (w5.alloc (.cells (ar8 xc0 xc1 xc2 xc3 xc4 xc5 xc6 xc7) 31)).cell? ⟨w.heap.size + 1, 6, none⟩ = some (.slice a5 len cap5) := by rw [cell_of_row _ _ 6 _ _ _ D10]; rfl
  have gX0 : (w5.alloc (.cells (ar8 xc0 xc1 xc2 xc3 xc4 xc5 xc6 xc7) 31)).cell? ⟨w2.heap.size, 0, none⟩ = some (.int .u8 xa0) := by rw [cell_of_row _ _ 0 _ _ _ X10]; rfl
  have gX1 : (w5.alloc (.cells (ar8 xc0 xc1 xc2 xc3 xc4 xc5 xc6 xc7) 31)).cell? ⟨w2.heap.size, 1, none⟩ = some (.int .u8 xa1) := by rw [cell_of_row _ _ 1 _ _ _ X10]; rfl
  have gX2 : (w5.alloc (.cells (ar8 xc0 xc1 xc2 xc3 xc4 xc5 xc6 xc7) 31)).cell? ⟨w2.heap.size, 2, none⟩ = some (.int .u8 xa2) := by rw [cell_of_row _ _ 2 _ _ _ X10]; rfl
  have gX3 : (w5.alloc (.cells (ar8 xc0 xc1 xc2 xc3 xc4 xc5 xc6 xc7) 31)).cell? ⟨w2.heap.size, 3, none⟩ = some (.int .u8 xa3) := by rw [cell_of_row _ _ 3 _ _ _ X10]; rfl
  have gX4 : (w5.alloc (.cells (ar8 xc0 xc1 xc2 xc3 xc4 xc5 xc6 xc7) 31)).cell? ⟨w2.heap.size, 4, none⟩ = some (.int .u8 xa4) := by rw [cell_of_row _ _ 4 _ _ _ X10]; rfl
  have gX5 : (w5.alloc (.cells (ar8 xc0 xc1 xc2 xc3 xc4 xc5 xc6 xc7) 31)).cell? ⟨w2.heap.size, 5, none⟩ = some (.int .u8 xa5) := by rw [cell_of_row _ _ 5 _ _ _ X10]; rfl
  have gX6 : (w5.alloc (.cells (ar8 xc0 xc1 xc2 xc3 xc4 xc5 xc6 xc7) 31)).cell? ⟨w2.heap.size, 6, none⟩ = some (.int .u8 xa6) := by rw [cell_of_row _ _ 6 _ _ _ X10]; rfl
  have gX7 : (w5.alloc (.cells (ar8 xc0 xc1 xc2 xc3 xc4 xc5 xc6 xc7) 31)).cell? ⟨w2.heap.size, 7, none⟩ = some (.int .u8 xa7) := by rw [cell_of_row _ _ 7 _ _ _ X10]; rfl
  have gY0 : (w5.alloc (.cells (ar8 xc0 xc1 xc2 xc3 xc4 xc5 xc6 xc7) 31)).cell? ⟨w3.heap.size, 0, none⟩ = some (.int .u8 xa0) := by rw [cell_of_row _ _ 0 _ _ _ Y10]; rfl
  have gY1 : (w5.alloc (.cells (ar8 xc0 xc1 xc2 xc3 xc4 xc5 xc6 xc7) 31)).cell? ⟨w3.heap.size, 1, none⟩ = some (.int .u8 xa1) := by rw [cell_of_row _ _ 1 _ _ _ Y10]; rfl
  have gY2 : (w5.alloc (.cells (ar8 xc0 xc1 xc2 xc3 xc4 xc5 xc6 xc7) 31)).cell? ⟨w3.heap.size, 2, none⟩ = some (.int .u8 xa2) := by rw [cell_of_row _ _ 2 _ _ _ Y10]; rfl
  have gY3 : (w5.alloc (.cells (ar8 xc0 xc1 xc2 xc3 xc4 xc5 xc6 xc7) 31)).cell? ⟨w3.heap.size, 3, none⟩ = some (.int .u8 xa3) := by rw [cell_of_row _ _ 3 _ _ _ Y10]; rfl
  have gY4 : (w5.alloc (.cells (ar8 xc0 xc1 xc2 xc3 xc4 xc5 xc6 xc7) 31)).cell? ⟨w3.heap.size, 4, none⟩ = some (.int .u8 xa4) := by rw [cell_of_row _ _ 4 _ _ _ Y10]; rfl
  have gY5 : (w5.alloc (.cells (ar8 xc0 xc1 xc2 xc3 xc4 xc5 xc6 xc7) 31)).cell? ⟨w3.heap.size, 5, none⟩ = some (.int .u8 xa5) := by rw [cell_of_row _ _ 5 _ _ _ Y10]; rfl
  have gY6 : (w5.alloc (.cells (ar8 xc0 xc1 xc2 xc3 xc4 xc5 xc6 xc7) 31)).cell? ⟨w3.heap.size, 6, none⟩ = some (.int .u8 xa6) := by rw [cell_of_row _ _ 6 _ _ _ Y10]; rfl
  have gY7 : (w5.alloc (.cells (ar8 xc0 xc1 xc2 xc3 xc4 xc5 xc6 xc7) 31)).cell? ⟨w3.heap.size, 7, none⟩ = some (.int .u8 xa7) := by rw [cell_of_row _ _ 7 _ _ _ Y10]; rfl
  have gU0 : (w5.alloc (.cells (ar8 xc0 xc1 xc2 xc3 xc4 xc5 xc6 xc7) 31)).cell? ⟨w4.heap.size, 0, none⟩ = some (.int .u8 xc0) := by rw [cell_of_row _ _ 0 _ _ _ U10]; rfl
  have gU1 : (w5.alloc (.cells (ar8 xc0 xc1 xc2 xc3 xc4 xc5 xc6 xc7) 31)).cell? ⟨w4.heap.size, 1, none⟩ = some (.int .u8 xc1) := by rw [cell_of_row _ _ 1 _ _ _ U10]; rfl
  have gU2 : (w5.alloc (.cells (ar8 xc0 xc1 xc2 xc3 xc4 xc5 xc6 xc7) 31)).cell? ⟨w4.heap.size, 2, none⟩ = some (.int .u8 xc2) := by rw [cell_of_row _ _ 2 _ _ _ U10]; rfl
  have gU3 : (w5.alloc (.cells (ar8 xc0 xc1 xc2 xc3 xc4 xc5 xc6 xc7) 31)).cell? ⟨w4.heap.size, 3, none⟩ = some (.int .u8 xc3) := by rw [cell_of_row _ _ 3 _ _ _ U10]; rfl
  have gU4 : (w5.alloc (.cells (ar8 xc0 xc1 xc2 xc3 xc4 xc5 xc6 xc7) 31)).cell? ⟨w4.heap.size, 4, none⟩ = some (.int .u8 xc4) := by rw [cell_of_row _ _ 4 _ _ _ U10]; rfl
  have gU5 : (w5.alloc (.cells (ar8 xc0 xc1 xc2 xc3 xc4 xc5 xc6 xc7) 31)).cell? ⟨w4.heap.size, 5, none⟩ = some (.int .u8 xc5) := by rw [cell_of_row _ _ 5 _ _ _ U10]; rfl
  have gU6 : (w5.alloc (.cells (ar8 xc0 xc1 xc2 xc3 xc4 xc5 xc6 xc7) 31)).cell? ⟨w4.heap.size, 6, none⟩ = some (.int .u8 xc6) := by rw [cell_of_row _ _ 6 _ _ _ U10]; rfl
  have gU7 : (w5.alloc (.cells (ar8 xc0 xc1 xc2 xc3 xc4 xc5 xc6 xc7) 31)).cell? ⟨w4.heap.size, 7, none⟩ = some (.int .u8 xc7) := by rw [cell_of_row _ _ 7 _ _ _ U10]; rfl
  have gV0 : (w5.alloc (.cells (ar8 xc0 xc1 xc2 xc3 xc4 xc5 xc6 xc7) 31)).cell? ⟨w5.heap.size, 0, none⟩ = some (.int .u8 xc0) := by rw [cell_of_row _ _ 0 _ _ _ V10]; rfl
  have gV1 : (w5.alloc (.cells (ar8 xc0 xc1 xc2 xc3 xc4 xc5 xc6 xc7) 31)).cell? ⟨w5.heap.size, 1, none⟩ = some (.int .u8 xc1) := by rw [cell_of_row _ _ 1 _ _ _ V10]; rfl
  have gV2 : (w5.alloc (.cells (ar8 xc0 xc1 xc2 xc3 xc4 xc5 xc6 xc7) 31)).cell? ⟨w5.heap.size, 2, none⟩ = some (.int .u8 xc2) := by rw [cell_of_row _ _ 2 _ _ _ V10]; rfl
  have gV3 : (w5.alloc (.cells (ar8 xc0 xc1 xc2 xc3 xc4 xc5 xc6 xc7) 31)).cell? ⟨w5.heap.size, 3, none⟩ = some (.int .u8 xc3) := by rw [cell_of_row _ _ 3 _ _ _ V10]; rfl
  have gV4 : (w5.alloc (.cells (ar8 xc0 xc1 xc2 xc3 xc4 xc5 xc6 xc7) 31)).cell? ⟨w5.heap.size, 4, none⟩ = some (.int .u8 xc4) := by rw [cell_of_row _ _ 4 _ _ _ V10]; rfl
  have gV5 : (w5.alloc (.cells (ar8 xc0 xc1 xc2 xc3 xc4 xc5 xc6 xc7) 31)).cell? ⟨w5.heap.size, 5, none⟩ = some (.int .u8 xc5) := by rw [cell_of_row _ _ 5 _ _ _ V10]; rfl
  have gV6 : (w5.alloc (.cells (ar8 xc0 xc1 xc2 xc3 xc4 xc5 xc6 xc7) 31)).cell? ⟨w5.heap.size, 6, none⟩ = some (.int .u8 xc6) := by rw [cell_of_row _ _ 6 _ _ _ V10]; rfl
  have gV7 : (w5.alloc (.cells (ar8 xc0 xc1 xc2 xc3 xc4 xc5 xc6 xc7) 31)).cell? ⟨w5.heap.size, 7, none⟩ = some (.int .u8 xc7) := by rw [cell_of_row _ _ 7 _ _ _ V10]; rfl
  go_wp2_with fail
  with_reducible refine (K5.out _ a5 cap5 B10 R10.out).mono ?_
  rintro r ww ⟨rfl, rfl⟩
  go_wp2_with fail
  with_reducible refine (works_any _).mono ?_
  rintro r vf ⟨rfl, hbf⟩
  have Bf : Below w.heap.size w vf := Below.andThen B10 hbf
  go_wp2_with fail
  go_ret
  exact ⟨rfl, Bf⟩
#print axioms shortWrites_any
end Go.Proofs.Ytlnlejdjekbipaa
namespace Go.Proofs.Ytlnlejdjekbipaa
open Go.RowKit

/-- May a segment be? -/
def segOk (seq : Int) (last : Bool) (len : Nat) : Bool := decide (1 ≤ seq) && (decide (seq ≤ 127) && (decide (1 ≤ len) && fits (len : Int) last))
/-- A segment's bytes. -/
def segP (seq : Int) (last : Bool) (zs : List Int) : Option B8 := if segOk seq last zs.length then some ⟨seq + bitn last 128, zb zs 0, zb zs 1, zb zs 2, zb zs 3, zb zs 4, zb zs 5, zb zs 6⟩ else none
theorem or128 (y : Int) (last : Bool) (h : 0 ≤ y ∧ y < 128) : bits .or .u8 y (bitv last 128) = y + bitn last 128 := by
  cases last
  · show bits .or .u8 y 0 = y + 0
    rw [u8_or y 0 h.1 (by omega) (by decide) (by decide)]
    simp; omega
  · exact u8_or128_right y h.1 h.2
theorem sl_7 (B : Nat) (w : World) : (Instr.sliceAt 31 (.pointer (some ⟨B, 0, none⟩)) (some (.int .i64 1)) none none).run Try.prog w = .ok (.slice (some ⟨B, 1, none⟩) 7 7) w := by kernel_rfl

theorem copy_one (ty : TypeId) (w : World) (C C' : Array Value) (x : Obj) (off n m : Nat) (a : Option Addr) (len cap : Nat) (zs : List Int) (hr : Row w a len zs) (hl : len ≤ n) (hC : off + n ≤ C.size) (hC' : over8 C off zs = C') :
    (Builtin.copy_ #[26, 26] ty #[.slice (some ⟨w.heap.size + 1, off, none⟩) n m, .slice a len cap]).run Try.prog ((w.alloc x).alloc (.cells C 31)) = .ok (.int .i64 len) ((w.alloc x).alloc (.cells C' 31)) := by
  have hB : ((w.alloc x).alloc (.cells C 31)).heap[w.heap.size + 1]? = some (.cells C 31 (0, 0)) := heap_at _ _ _ (by simp)
  rw [copy_any ty _ (w.heap.size + 1) off n m C 31 hB a len cap zs (hr.next (by repeat (first | exact Below.refl _ _ | apply Below.drew | apply Below.al))) hl hC, hC']
  have := World.setRow_alloc_new (w.alloc x) C C' 31
  rw [show (w.alloc x).heap.size = w.heap.size + 1 from by simp] at this
  rw [this]

set_option linter.unusedSimpArgs false in
set_option maxHeartbeats 4000000 in
set_option maxRecDepth 100000 in
theorem segment_any (seq : Int) (last : Bool) (a : Option Addr) (len cap : Nat) (zs : List Int) (w : World) (hr : Row w a len zs) :
    Calls Try.prog 19 #[.int .i64 seq, .bool last, .slice a len cap] w (BPost w (segP seq last zs)) := by
  have hs := hr.size
  unfold segP
  rw [hs]
  by_cases h1 : seq < 1
  · have e : segOk seq last len = false := by simp [segOk]; omega
    rw [e]
    clear hr hs
    go_enter Try.func19, Try.ntmps19
    go_wp2_with fail
    exact bodyPost_ret (v := .tuple #[arr8 0 0 0 0 0 0 0 0, .int .i64 2]) (by simp [results, Try.results19, go_sem]) rfl ⟨rfl, (by repeat (first | exact Below.refl _ _ | apply Below.drew | apply Below.al))⟩
  by_cases h2 : 127 < seq
  · have e : segOk seq last len = false := by simp [segOk]; omega
    rw [e]
    clear hr hs
    go_enter Try.func19, Try.ntmps19
    go_wp2_with fail
    exact bodyPost_ret (v := .tuple #[arr8 0 0 0 0 0 0 0 0, .int .i64 2]) (by simp [results, Try.results19, go_sem]) rfl ⟨rfl, (by repeat (first | exact Below.refl _ _ | apply Below.drew | apply Below.al))⟩
  by_cases h3 : len = 0
  · have e : segOk seq last len = false := by simp [segOk]; omega
    rw [e]
    subst h3
    clear hr hs
    go_enter Try.func19, Try.ntmps19
    go_wp2_with fail
    exact bodyPost_ret (v := .tuple #[arr8 0 0 0 0 0 0 0 0, .int .i64 2]) (by simp [results, Try.results19, go_sem]) rfl ⟨rfl, (by repeat (first | exact Below.refl _ _ | apply Below.drew | apply Below.al))⟩
  have l0 : ((len : Int) == 0) = false := by simp; omega
  cases hF : fits (len : Int) last
  · have e : segOk seq last len = false := by simp [segOk, hF]
    rw [e]
    clear hr hs
    go_enter Try.func19, Try.ntmps19
    go_wp2_with fail
    with_reducible refine (fitsPart_any _ _ _).mono ?_
    rintro r w1 ⟨rfl, rfl⟩
    go_wp2_with fail
    exact bodyPost_ret (v := .tuple #[arr8 0 0 0 0 0 0 0 0, .int .i64 2]) (by simp [results, Try.results19, go_sem]) rfl ⟨rfl, (by repeat (first | exact Below.refl _ _ | apply Below.drew | apply Below.al))⟩
  · have e : segOk seq last len = true := by simp [segOk, hF]; omega
    rw [e]
    have h7 : len ≤ 7 := by
      simp only [fits, Bool.or_eq_true, beq_iff_eq, Bool.and_eq_true, decide_eq_true_eq] at hF
      omega
    have hcp := fun ty x B => copy_one ty w (ar8 B 0 0 0 0 0 0 0) (ar8 B (zb zs 0) (zb zs 1) (zb zs 2) (zb zs 3) (zb zs 4) (zb zs 5) (zb zs 6)) x 1 7 7 a len cap zs hr (by omega) (by simp) (over8_1 _ zs (by omega))
    have e1 : IntKind.u8.wrap seq = seq := by rw [wrap8]; omega
    have e2 := or128 seq last (by omega)
    clear hr hs
    generalize zb zs 0 = z0 at *
    generalize zb zs 1 = z1 at *
    generalize zb zs 2 = z2 at *
    generalize zb zs 3 = z3 at *
    generalize zb zs 4 = z4 at *
    generalize zb zs 5 = z5 at *
    generalize zb zs 6 = z6 at *
    generalize seq + bitn last 128 = sq at *
    go_enter Try.func19, Try.ntmps19
    go_wp2_with fail
    with_reducible refine (fitsPart_any _ _ _).mono ?_
    rintro r w1 ⟨rfl, rfl⟩
    go_wp2_with fail
    with_reducible refine (bit_any _ _ _).mono ?_
    rintro r w1 ⟨rfl, rfl⟩
    go_wp2_with fail
    exact bodyPost_ret (v := .tuple #[arr8 sq z0 z1 z2 z3 z4 z5 z6, .int .i64 0]) (by simp [results, Try.results19, go_sem]) rfl ⟨rfl, (by repeat (first | exact Below.refl _ _ | apply Below.drew | apply Below.al))⟩
#print axioms segment_any

set_option linter.unusedSimpArgs false in
set_option maxHeartbeats 4000000 in
set_option maxRecDepth 100000 in
theorem refSegment_any (seq : Int) (last : Bool) (a : Option Addr) (len cap : Nat) (zs : List Int) (hl : len ≤ 100) (w : World) (hr : Row w a len zs) :
    Calls Try.prog 20 #[.int .i64 seq, .bool last, .slice a len cap] w (BPost w (segP seq last zs)) := by
  have hs := hr.size
  unfold segP
  rw [hs]
  have hl' : (len : Int) ≤ 100 := by omega
  by_cases h1 : seq < 1
  · have e : segOk seq last len = false := by simp [segOk]; omega
    rw [e]
    clear hr hs
    go_enter Try.func20, Try.ntmps20
    go_wp2_with fail
    exact bodyPost_ret (v := .tuple #[arr8 0 0 0 0 0 0 0 0, .int .i64 2]) (by simp [results, Try.results20, go_sem]) rfl ⟨rfl, (by repeat (first | exact Below.refl _ _ | apply Below.drew | apply Below.al))⟩
  by_cases h2 : 127 < seq
  · have e : segOk seq last len = false := by simp [segOk]; omega
    rw [e]
    clear hr hs
    go_enter Try.func20, Try.ntmps20
    go_wp2_with fail
    exact bodyPost_ret (v := .tuple #[arr8 0 0 0 0 0 0 0 0, .int .i64 2]) (by simp [results, Try.results20, go_sem]) rfl ⟨rfl, (by repeat (first | exact Below.refl _ _ | apply Below.drew | apply Below.al))⟩
  by_cases h3 : (len : Int) < 1
  · have e : segOk seq last len = false := by simp [segOk]; omega
    rw [e]
    clear hr hs
    go_enter Try.func20, Try.ntmps20
    go_wp2_with fail
    exact bodyPost_ret (v := .tuple #[arr8 0 0 0 0 0 0 0 0, .int .i64 2]) (by simp [results, Try.results20, go_sem]) rfl ⟨rfl, (by repeat (first | exact Below.refl _ _ | apply Below.drew | apply Below.al))⟩
  by_cases h4 : 7 < (len : Int)
  · have e : segOk seq last len = false := by simp [segOk, fits]; omega
    rw [e]
    clear hr hs
    go_enter Try.func20, Try.ntmps20
    go_wp2_with fail
    exact bodyPost_ret (v := .tuple #[arr8 0 0 0 0 0 0 0 0, .int .i64 2]) (by simp [results, Try.results20, go_sem]) rfl ⟨rfl, (by repeat (first | exact Below.refl _ _ | apply Below.drew | apply Below.al))⟩
  have hfin : (last = false ∧ (len : Int) < 7) ∨ (last = false ∧ ¬ (len : Int) < 7) ∨ last = true := by cases last <;> simp <;> omega
  rcases hfin with ⟨rfl, h5⟩ | hfin
  · have e : segOk seq false len = false := by simp [segOk, fits]; omega
    rw [e]
    clear hr hs
    go_enter Try.func20, Try.ntmps20
    go_wp2_with fail
    exact bodyPost_ret (v := .tuple #[arr8 0 0 0 0 0 0 0 0, .int .i64 2]) (by simp [results, Try.results20, go_sem]) rfl ⟨rfl, (by repeat (first | exact Below.refl _ _ | apply Below.drew | apply Below.al))⟩
  · have e : segOk seq last len = true := by rcases hfin with ⟨rfl, _⟩ | rfl <;> simp [segOk, fits] <;> omega
    rw [e]
    have HFL : Hid (∀ W, Below w.heap.size w W → ∀ x, Calls Try.prog 32 #[arr8 x 0 0 0 0 0 0 0, .int .i64 1, .slice a len cap] W fun e w' => e = .returned (arr8 x (zb zs 0) (zb zs 1) (zb zs 2) (zb zs 3) (zb zs 4) (zb zs 5) (zb zs 6)) ∧ ∃ o1 o2, w' = (W.alloc o1).alloc o2) := fun W hb x => filled1 x a len cap zs (by omega) W (hr.next hb)
    have hm : (seq + bitn last 128) % 256 = seq + bitn last 128 := by cases last <;> simp [bitn] <;> omega
    have hw : IntKind.i64.wrap (seq + bitn last 128) = seq + bitn last 128 := by cases last <;> simp [bitn, IntKind.wrap, IntKind.bits, IntKind.signed] <;> omega
    have hbd : 0 ≤ seq + bitn last 128 ∧ seq + bitn last 128 < 256 := by cases last <;> simp [bitn] <;> omega
    obtain ⟨bd0, bd1⟩ := hbd
    clear hr hs
    generalize zb zs 0 = z0 at *
    generalize zb zs 1 = z1 at *
    generalize zb zs 2 = z2 at *
    generalize zb zs 3 = z3 at *
    generalize zb zs 4 = z4 at *
    generalize zb zs 5 = z5 at *
    generalize zb zs 6 = z6 at *
    rcases hfin with ⟨rfl, h5⟩ | rfl
    all_goals
      go_enter Try.func20, Try.ntmps20
      go_wp2_with fail
      with_reducible refine (rbit_any _ _ _).mono ?_
      rintro r w1 ⟨rfl, rfl⟩
      go_wp2_with fail
      with_reducible refine (plain_any _ _).mono ?_
      rintro r w1 ⟨rfl, q1, q2, rfl⟩
      rw [hm]
      go_wp2_with fail
      with_reducible refine (HFL.out _ (by repeat (first | exact Below.refl _ _ | apply Below.drew | apply Below.al)) _).mono ?_
      rintro r w1 ⟨rfl, q3, q4, rfl⟩
      go_wp2_with fail
      exact bodyPost_ret (v := .tuple #[arr8 (seq + bitn _ 128) z0 z1 z2 z3 z4 z5 z6, .int .i64 0]) (by simp [results, Try.results20, go_sem]) rfl ⟨rfl, (by repeat (first | exact Below.refl _ _ | apply Below.drew | apply Below.al))⟩
#print axioms refSegment_any

/-- What Segmented tells. -/
def SPost (w : World) (b : B8) (r : Ending) (w' : World) : Prop := ∃ a cap, (if bits .andNot .u8 b.b0 128 = 0 then r = .returned (.tuple #[.int .i64 0, .bool false, .slice none 0 0, .int .i64 11]) else r = .returned (.tuple #[.int .i64 (bits .andNot .u8 b.b0 128), .bool (bt b.b0 128), .slice a 7 cap, .int .i64 0]) ∧ Told w w' a 7 cap [b.b1, b.b2, b.b3, b.b4, b.b5, b.b6, b.b7]) ∧ Below w.heap.size w w'
set_option linter.unusedSimpArgs false in
set_option maxHeartbeats 4000000 in
set_option maxRecDepth 100000 in
theorem segmented_any (b0 b1 b2 b3 b4 b5 b6 b7 : Int) (h1 : 0 ≤ b1 ∧ b1 < 256) (h2 : 0 ≤ b2 ∧ b2 < 256) (h3 : 0 ≤ b3 ∧ b3 < 256) (h4 : 0 ≤ b4 ∧ b4 < 256) (h5 : 0 ≤ b5 ∧ b5 < 256) (h6 : 0 ≤ b6 ∧ b6 < 256) (h7 : 0 ≤ b7 ∧ b7 < 256) (w : World) :
    Calls Try.prog 21 #[arr8 b0 b1 b2 b3 b4 b5 b6 b7] w (SPost w ⟨b0, b1, b2, b3, b4, b5, b6, b7⟩) := by
  have hb := bits_lo_u8 .andNot b0 128
  have hb' := bits_hi_u8 .andNot b0 128
  unfold SPost
  dsimp only
  obtain ⟨E, hE⟩ : ∃ E, bits .andNot .u8 b0 128 = E := ⟨_, rfl⟩
  rw [hE] at hb hb' ⊢
  have hw : IntKind.i64.wrap E = E := by simp [IntKind.wrap, IntKind.bits, IntKind.signed]; omega
  by_cases hz : E = 0
  · subst hz
    simp only [if_true]
    clear hb hb'
    go_enter Try.func21, Try.ntmps21
    go_wp2_with fail
    exact bodyPost_ret (v := .tuple #[.int .i64 0, .bool false, .slice none 0 0, .int .i64 11]) (by simp [results, Try.results21, go_sem]) rfl ⟨none, 0, rfl, (by repeat (first | exact Below.refl _ _ | apply Below.drew | apply Below.al))⟩
  · simp only [hz, if_false]
    have hz' : (E == 0) = false := by simpa using hz
    obtain ⟨T, hT⟩ : ∃ T, (bits .and .u8 b0 128 != 0) = T := ⟨_, rfl⟩
    rw [show bt b0 128 = T from hT]
    have hrow := row_1 (w.alloc (.cells (ar8 b0 b1 b2 b3 b4 b5 b6 b7) 31)).drew w.heap.size 0 b0 b1 b2 b3 b4 b5 b6 b7 _ h1 h2 h3 h4 h5 h6 h7 (heap_new _ _)
    have HCl : Hid (Calls Try.prog 35 #[.slice (some ⟨w.heap.size, 1, none⟩) 7 7] (w.alloc (.cells (ar8 b0 b1 b2 b3 b4 b5 b6 b7) 31)).drew fun e w' => (∃ a' cap', e = .returned (.slice a' 7 cap') ∧ Told (w.alloc (.cells (ar8 b0 b1 b2 b3 b4 b5 b6 b7) 31)).drew w' a' 7 cap' [b1, b2, b3, b4, b5, b6, b7]) ∧ Below (w.alloc (.cells (ar8 b0 b1 b2 b3 b4 b5 b6 b7) 31)).drew.heap.size (w.alloc (.cells (ar8 b0 b1 b2 b3 b4 b5 b6 b7) 31)).drew w') := clone8_any _ _ _ _ _ hrow (by omega)
    clear hrow
    go_enter Try.func21, Try.ntmps21
    go_wp2_with fail
    go_region_held3 (fun x => x.cell? ⟨w.heap.size, 0, none⟩ = some (.int .u8 b0)) (first | ((simp [go_sem]; done)) | exact hx1) (first | ((go_at_call 35; with_reducible refine HCl.out.mono ?_; rintro r w1 ⟨⟨a', cap', rfl, ht⟩, hb1⟩; have hx1 : w1.cell? ⟨w.heap.size, 0, none⟩ = some (.int .u8 b0) := (hb1.cell (by simp)).trans (by simp [go_sem]))))
    all_goals
      go_wp2_with fail
      exact bodyPost_ret (v := .tuple #[.int .i64 E, .bool T, .slice a' 7 cap', .int .i64 0]) (by simp [results, Try.results21, go_sem]) rfl ⟨a', cap', ⟨rfl, ht.mono (by simp)⟩, Below.andThen (by repeat (first | exact Below.refl _ _ | apply Below.drew | apply Below.al)) hb1⟩
#print axioms segmented_any
end Go.Proofs.Ytlnlejdjekbipaa
namespace Go.Proofs.Ytlnlejdjekbipaa
open Go.RowKit

theorem and128 (z : Int) (h : 0 ≤ z ∧ z < 256) : bits .andNot .u8 z 128 = z % 128 := by
  rw [u8_andNot z 128 h.1 h.2 (by decide) (by decide)]
  have : z.toNat &&& (255 - (128 : Int).toNat) = z.toNat % 128 := Nat.and_two_pow_sub_one_eq_mod z.toNat 7
  rw [this]; omega
theorem bt128 (z : Int) (h : 0 ≤ z ∧ z < 256) : bt z 128 = decide (128 ≤ z) := by
  obtain ⟨n, rfl⟩ := Int.eq_ofNat_of_zero_le h.1
  have hn : n < 256 := by omega
  unfold bt
  rw [u8_and (n : Int) 128 (by omega) (by omega) (by decide) (by decide)]
  have : ∀ m : Nat, m < 256 → (((m &&& 128 : Nat) : Int) != 0) = decide (128 ≤ m) := by decide +kernel
  have e := this n hn
  simp only [Int.toNat_natCast] at *
  rw [show ((128 : Int).toNat) = 128 from rfl, e]
  simp only [decide_eq_decide]
  omega
theorem segP_ok (seq : Int) (last : Bool) (zs : List Int) (ho : Oct zs) (x : B8) (h : segP seq last zs = some x) : x.Ok := by
  unfold segP at h
  split at h
  · rename_i hk
    simp only [Option.some.injEq] at h
    subst h
    simp only [segOk, Bool.and_eq_true, decide_eq_true_eq] at hk
    refine ⟨?_, ho.getD 0, ho.getD 1, ho.getD 2, ho.getD 3, ho.getD 4, ho.getD 5, ho.getD 6⟩
    cases last <;> simp [bitn] <;> omega
  · cases h
theorem same_self (a0 a1 a2 a3 a4 a5 a6 a7 : Int) : same8 a0 a1 a2 a3 a4 a5 a6 a7 a0 a1 a2 a3 a4 a5 a6 a7 = true := by simp [same8]
#print axioms bt128
#print axioms and128

set_option linter.unusedSimpArgs false in
set_option maxHeartbeats 4000000 in
set_option maxRecDepth 100000 in
theorem shortSegments_any (seq : Int) (last : Bool) (a : Option Addr) (len cap : Nat) (zs : List Int) (y : B8) (ok : y.Ok) (w : World) (hr : Row w a len zs) :
    Calls Try.prog 6 #[.int .i64 seq, .bool last, .slice a len cap, arr8 y.b0 y.b1 y.b2 y.b3 y.b4 y.b5 y.b6 y.b7] w fun e w' => e = .returned (.bool true) ∧ Below w.heap.size w w' := by
  obtain ⟨b0, b1, b2, b3, b4, b5, b6, b7⟩ := y
  obtain ⟨okb0, okb1, okb2, okb3, okb4, okb5, okb6, okb7⟩ := ok
  dsimp only at *
  by_cases hl : 100 < (len : Int)
  · clear hr
    go_enter Try.func6, Try.ntmps6
    go_wp2_with fail
    go_ret
    exact ⟨rfl, (by repeat (first | exact Below.refl _ _ | apply Below.drew | apply Below.al))⟩
  have hl' : len ≤ 100 := by omega
  have S1 : Hid (∀ W, Below w.heap.size w W → Calls Try.prog 19 #[.int .i64 seq, .bool last, .slice a len cap] W (BPost W (segP seq last zs))) := fun W hb => segment_any seq last a len cap zs W (hr.next hb)
  have S2 : Hid (∀ W, Below w.heap.size w W → Calls Try.prog 20 #[.int .i64 seq, .bool last, .slice a len cap] W (BPost W (segP seq last zs))) := fun W hb => refSegment_any seq last a len cap zs hl' W (hr.next hb)
  obtain ⟨O, hO⟩ : ∃ O, segP seq last zs = O := ⟨_, rfl⟩
  have hok : ∀ x, O = some x → x.Ok := fun x hx => segP_ok seq last zs hr.oct x (hO.trans hx)
  rw [hO] at S1 S2
  clear hr hO
  have hn8 := neq8
  obtain ⟨x0, x1, x2, x3, x4, x5, x6, x7, ec, HP, ⟨okx0, okx1, okx2, okx3, okx4, okx5, okx6, okx7⟩⟩ : ∃ x0 x1 x2 x3 x4 x5 x6 x7 ec, Hid (∀ W r w', BPost W O r w' → r = .returned (.tuple #[arr8 x0 x1 x2 x3 x4 x5 x6 x7, .int .i64 ec]) ∧ Below W.heap.size W w') ∧ (⟨x0, x1, x2, x3, x4, x5, x6, x7⟩ : B8).Ok := by
    cases O with
    | none => exact ⟨0, 0, 0, 0, 0, 0, 0, 0, 2, fun W r w' h => h, by constructor <;> decide⟩
    | some x => exact ⟨x.b0, x.b1, x.b2, x.b3, x.b4, x.b5, x.b6, x.b7, 0, fun W r w' h => h, hok x rfl⟩
  dsimp only at okx0 okx1 okx2 okx3 okx4 okx5 okx6 okx7
  have hss := same_self x0 x1 x2 x3 x4 x5 x6 x7
  clear hok
  go_enter Try.func6, Try.ntmps6
  go_wp2_with fail
  with_reducible refine (S1.out _ (by repeat (first | exact Below.refl _ _ | apply Below.drew | apply Below.al))).mono ?_
  intro r w1 h1
  obtain ⟨rfl, hb1⟩ := HP.out _ _ _ h1
  have B1 : Hid (Below w.heap.size w w1) := Below.andThen (by repeat (first | exact Below.refl _ _ | apply Below.drew | apply Below.al)) hb1
  have HX1 : Hid (w1.heap[w.heap.size]? = some (.cells (ar8 b0 b1 b2 b3 b4 b5 b6 b7) 31 (0, 0))) := (hb1.block _ (by simp)).trans (heap_new _ _)
  clear hb1 h1
  go_wp2_with fail
  with_reducible refine (S2.out _ (Below.al B1.out _)).mono ?_
  intro r w2 h2
  obtain ⟨rfl, hb2⟩ := HP.out _ _ _ h2
  have B2 : Hid (Below w.heap.size w w2) := Below.andThen (Below.al B1.out _) hb2
  have hx2 : w2.heap[w.heap.size]? = some (.cells (ar8 b0 b1 b2 b3 b4 b5 b6 b7) 31 (0, 0)) := (hb2.block _ (by simp; have := (Array.getElem?_eq_some_iff.1 HX1.out).1; omega)).trans ((Below.heap_alloc _ _ _ (Array.getElem?_eq_some_iff.1 HX1.out).1).trans HX1.out)
  have hy2 : w2.heap[w1.heap.size]? = some (.cells (ar8 x0 x1 x2 x3 x4 x5 x6 x7) 31 (0, 0)) := (hb2.block _ (by simp)).trans (heap_new _ _)
  have p0 : w2.cell? ⟨w.heap.size, 0, none⟩ = some (.int .u8 b0) := by rw [cell_of_row w2 _ 0 _ _ _ hx2]; rfl
  have q0 : w2.cell? ⟨w1.heap.size, 0, none⟩ = some (.int .u8 x0) := by rw [cell_of_row w2 _ 0 _ _ _ hy2]; rfl
  have p1 : w2.cell? ⟨w.heap.size, 1, none⟩ = some (.int .u8 b1) := by rw [cell_of_row w2 _ 1 _ _ _ hx2]; rfl
  have q1 : w2.cell? ⟨w1.heap.size, 1, none⟩ = some (.int .u8 x1) := by rw [cell_of_row w2 _ 1 _ _ _ hy2]; rfl
  have p2 : w2.cell? ⟨w.heap.size, 2, none⟩ = some (.int .u8 b2) := by rw [cell_of_row w2 _ 2 _ _ _ hx2]; rfl
  have q2 : w2.cell? ⟨w1.heap.size, 2, none⟩ = some (.int .u8 x2) := by rw [cell_of_row w2 _ 2 _ _ _ hy2]; rfl
  have p3 : w2.cell? ⟨w.heap.size, 3, none⟩ = some (.int .u8 b3) := by rw [cell_of_row w2 _ 3 _ _ _ hx2]; rfl
  have q3 : w2.cell? ⟨w1.heap.size, 3, none⟩ = some (.int .u8 x3) := by rw [cell_of_row w2 _ 3 _ _ _ hy2]; rfl
  have p4 : w2.cell? ⟨w.heap.size, 4, none⟩ = some (.int .u8 b4) := by rw [cell_of_row w2 _ 4 _ _ _ hx2]; rfl
  have q4 : w2.cell? ⟨w1.heap.size, 4, none⟩ = some (.int .u8 x4) := by rw [cell_of_row w2 _ 4 _ _ _ hy2]; rfl
  have p5 : w2.cell? ⟨w.heap.size, 5, none⟩ = some (.int .u8 b5) := by rw [cell_of_row w2 _ 5 _ _ _ hx2]; rfl
  have q5 : w2.cell? ⟨w1.heap.size, 5, none⟩ = some (.int .u8 x5) := by rw [cell_of_row w2 _ 5 _ _ _ hy2]; rfl
  have p6 : w2.cell? ⟨w.heap.size, 6, none⟩ = some (.int .u8 b6) := by rw [cell_of_row w2 _ 6 _ _ _ hx2]; rfl
  have q6 : w2.cell? ⟨w1.heap.size, 6, none⟩ = some (.int .u8 x6) := by rw [cell_of_row w2 _ 6 _ _ _ hy2]; rfl
  have p7 : w2.cell? ⟨w.heap.size, 7, none⟩ = some (.int .u8 b7) := by rw [cell_of_row w2 _ 7 _ _ _ hx2]; rfl
  have q7 : w2.cell? ⟨w1.heap.size, 7, none⟩ = some (.int .u8 x7) := by rw [cell_of_row w2 _ 7 _ _ _ hy2]; rfl
  have sx2 : w.heap.size < w2.heap.size := (Array.getElem?_eq_some_iff.1 hx2).1
  have sy2 : w1.heap.size < w2.heap.size := (Array.getElem?_eq_some_iff.1 hy2).1
  clear hb2 h2 hx2 hy2 S1 S2 HP
  go_wp2_with fail
  go_loopw [49] (fun iv wr => (iv = .int .i64 0 ∨ iv = .int .i64 1 ∨ iv = .int .i64 2) ∧ Hid (Below w.heap.size w wr) ∧ Hid (wr.heap[w2.heap.size + 1]? = some (.cells #[.int .u8 x0, .int .u8 x1, .int .u8 x2, .int .u8 x3, .int .u8 x4, .int .u8 x5, .int .u8 x6, .int .u8 x7, .int .u8 b0, .int .u8 b1, .int .u8 b2, .int .u8 b3, .int .u8 b4, .int .u8 b5, .int .u8 b6, .int .u8 b7] 31 (0, 0)))) (fun iv _ => 2 - (intOf iv).toNat)
  case atStart => exact ⟨.inl rfl, Below.al (Below.al B2.out _) _, heap_at _ _ _ (by simp)⟩
  case round =>
    obtain ⟨hi, hB, hG⟩ := hrel
    clear p0 p1 p2 p3 p4 p5 p6 p7 q0 q1 q2 q3 q4 q5 q6 q7
    rcases hi with rfl | rfl | rfl
    · have g0 : wr.cell? ⟨w2.heap.size + 1, 0, none⟩ = some (.int .u8 x0) := by rw [cell_of_row wr _ 0 _ _ _ hG.out]; rfl
      have g1 : wr.cell? ⟨w2.heap.size + 1, 1, none⟩ = some (.int .u8 x1) := by rw [cell_of_row wr _ 1 _ _ _ hG.out]; rfl
      have g2 : wr.cell? ⟨w2.heap.size + 1, 2, none⟩ = some (.int .u8 x2) := by rw [cell_of_row wr _ 2 _ _ _ hG.out]; rfl
      have g3 : wr.cell? ⟨w2.heap.size + 1, 3, none⟩ = some (.int .u8 x3) := by rw [cell_of_row wr _ 3 _ _ _ hG.out]; rfl
      have g4 : wr.cell? ⟨w2.heap.size + 1, 4, none⟩ = some (.int .u8 x4) := by rw [cell_of_row wr _ 4 _ _ _ hG.out]; rfl
      have g5 : wr.cell? ⟨w2.heap.size + 1, 5, none⟩ = some (.int .u8 x5) := by rw [cell_of_row wr _ 5 _ _ _ hG.out]; rfl
      have g6 : wr.cell? ⟨w2.heap.size + 1, 6, none⟩ = some (.int .u8 x6) := by rw [cell_of_row wr _ 6 _ _ _ hG.out]; rfl
      have g7 : wr.cell? ⟨w2.heap.size + 1, 7, none⟩ = some (.int .u8 x7) := by rw [cell_of_row wr _ 7 _ _ _ hG.out]; rfl
      have szG : w2.heap.size + 1 < wr.heap.size := (Array.getElem?_eq_some_iff.1 hG.out).1
      have SG : Hid (∀ W, Calls Try.prog 21 #[arr8 x0 x1 x2 x3 x4 x5 x6 x7] W (SPost W ⟨x0, x1, x2, x3, x4, x5, x6, x7⟩)) := fun W => segmented_any x0 x1 x2 x3 x4 x5 x6 x7 okx1 okx2 okx3 okx4 okx5 okx6 okx7 W
      have hE : Hid (bits .andNot .u8 x0 128 = x0 % 128) := and128 x0 okx0
      have hQ : Hid (bt x0 128 = decide (128 ≤ x0)) := bt128 x0 okx0
      have zl := okx0.1
      have zh := okx0.2
      have htm : Int.tmod x0 128 = x0 % 128 := Int.tmod_eq_emod_of_nonneg zl
      have e64 : IntKind.i64.wrap x0 = x0 := by simp [IntKind.wrap, IntKind.bits, IntKind.signed]; omega
      go_wp2_with fail
      with_reducible refine (SG.out _).mono ?_
      rintro r w4 ⟨a4, cap4, hr4, hb4⟩
      dsimp only at hr4
      rw [hE.out, hQ.out] at hr4
      have B4 : Hid (Below w.heap.size w w4) := Below.andThen (Below.al hB.out _) hb4
      have G4 : Hid (w4.heap[w2.heap.size + 1]? = some (.cells #[.int .u8 x0, .int .u8 x1, .int .u8 x2, .int .u8 x3, .int .u8 x4, .int .u8 x5, .int .u8 x6, .int .u8 x7, .int .u8 b0, .int .u8 b1, .int .u8 b2, .int .u8 b3, .int .u8 b4, .int .u8 b5, .int .u8 b6, .int .u8 b7] 31 (0, 0))) := (hb4.block _ (by simp; omega)).trans ((Below.heap_alloc _ _ _ szG).trans hG.out)
      have hz4 : w4.heap[wr.heap.size]? = some (.cells (ar8 x0 x1 x2 x3 x4 x5 x6 x7) 31 (0, 0)) := (hb4.block _ (by simp)).trans (heap_new _ _)
      have zc0 : w4.cell? ⟨wr.heap.size, 0, none⟩ = some (.int .u8 x0) := by rw [cell_of_row w4 _ 0 _ _ _ hz4]; rfl
      have hrz : Hid (Row w4 (some ⟨wr.heap.size, 1, none⟩) 7 [x1, x2, x3, x4, x5, x6, x7]) := row_1 w4 wr.heap.size 0 x0 x1 x2 x3 x4 x5 x6 x7 _ okx1 okx2 okx3 okx4 okx5 okx6 okx7 hz4
      clear hb4 hz4 SG hE hQ
      by_cases hm : x0 % 128 = 0
      · rw [if_pos hm] at hr4
        subst hr4
        clear hrz
        go_wp2_with fail
        exact ⟨⟨by simp, B4, G4⟩, by decide⟩
      · rw [if_neg hm] at hr4
        obtain ⟨rfl, ht4⟩ := hr4
        have hmb : (x0 % 128 == 0) = false := by simpa using hm
        have SB : Hid (Calls Try.prog 13 #[.slice a4 7 cap4, .slice (some ⟨wr.heap.size, 1, none⟩) 7 7] w4 fun e w' => e = .returned (.bool true) ∧ w' = w4) := (same_bytes _ _ _ _ _ _ _ _ w4 ht4.row hrz.out).mono (fun e w' h => ⟨h.1.trans (by rw [beq_self_eq_true]), h.2⟩)
        have hsl := fun W => sl_7 wr.heap.size W
        clear ht4 hrz
        by_cases hq : 128 ≤ x0
        · rw [decide_eq_true hq]
          go_wp2_with fail
          with_reducible refine SB.out.mono ?_
          rintro r w5 ⟨rfl, rfl⟩
          go_wp2_with fail
          exact ⟨⟨by simp, B4, G4⟩, by decide⟩
        · rw [decide_eq_false hq]
          go_wp2_with fail
          with_reducible refine SB.out.mono ?_
          rintro r w5 ⟨rfl, rfl⟩
          go_wp2_with fail
          exact ⟨⟨by simp, B4, G4⟩, by decide⟩
    · have g0 : wr.cell? ⟨w2.heap.size + 1, 8, none⟩ = some (.int .u8 b0) := by rw [cell_of_row wr _ 8 _ _ _ hG.out]; rfl
      have g1 : wr.cell? ⟨w2.heap.size + 1, 9, none⟩ = some (.int .u8 b1) := by rw [cell_of_row wr _ 9 _ _ _ hG.out]; rfl
      have g2 : wr.cell? ⟨w2.heap.size + 1, 10, none⟩ = some (.int .u8 b2) := by rw [cell_of_row wr _ 10 _ _ _ hG.out]; rfl
      have g3 : wr.cell? ⟨w2.heap.size + 1, 11, none⟩ = some (.int .u8 b3) := by rw [cell_of_row wr _ 11 _ _ _ hG.out]; rfl
      have g4 : wr.cell? ⟨w2.heap.size + 1, 12, none⟩ = some (.int .u8 b4) := by rw [cell_of_row wr _ 12 _ _ _ hG.out]; rfl
      have g5 : wr.cell? ⟨w2.heap.size + 1, 13, none⟩ = some (.int .u8 b5) := by rw [cell_of_row wr _ 13 _ _ _ hG.out]; rfl
      have g6 : wr.cell? ⟨w2.heap.size + 1, 14, none⟩ = some (.int .u8 b6) := by rw [cell_of_row wr _ 14 _ _ _ hG.out]; rfl
      have g7 : wr.cell? ⟨w2.heap.size + 1, 15, none⟩ = some (.int .u8 b7) := by rw [cell_of_row wr _ 15 _ _ _ hG.out]; rfl
      have szG : w2.heap.size + 1 < wr.heap.size := (Array.getElem?_eq_some_iff.1 hG.out).1
      have SG : Hid (∀ W, Calls Try.prog 21 #[arr8 b0 b1 b2 b3 b4 b5 b6 b7] W (SPost W ⟨b0, b1, b2, b3, b4, b5, b6, b7⟩)) := fun W => segmented_any b0 b1 b2 b3 b4 b5 b6 b7 okb1 okb2 okb3 okb4 okb5 okb6 okb7 W
      have hE : Hid (bits .andNot .u8 b0 128 = b0 % 128) := and128 b0 okb0
      have hQ : Hid (bt b0 128 = decide (128 ≤ b0)) := bt128 b0 okb0
      have zl := okb0.1
      have zh := okb0.2
      have htm : Int.tmod b0 128 = b0 % 128 := Int.tmod_eq_emod_of_nonneg zl
      have e64 : IntKind.i64.wrap b0 = b0 := by simp [IntKind.wrap, IntKind.bits, IntKind.signed]; omega
      go_wp2_with fail
      with_reducible refine (SG.out _).mono ?_
      rintro r w4 ⟨a4, cap4, hr4, hb4⟩
      dsimp only at hr4
      rw [hE.out, hQ.out] at hr4
      have B4 : Hid (Below w.heap.size w w4) := Below.andThen (Below.al hB.out _) hb4
      have G4 : Hid (w4.heap[w2.heap.size + 1]? = some (.cells #[.int .u8 x0, .int .u8 x1, .int .u8 x2, .int .u8 x3, .int .u8 x4, .int .u8 x5, .int .u8 x6, .int .u8 x7, .int .u8 b0, .int .u8 b1, .int .u8 b2, .int .u8 b3, .int .u8 b4, .int .u8 b5, .int .u8 b6, .int .u8 b7] 31 (0, 0))) := (hb4.block _ (by simp; omega)).trans ((Below.heap_alloc _ _ _ szG).trans hG.out)
      have hz4 : w4.heap[wr.heap.size]? = some (.cells (ar8 b0 b1 b2 b3 b4 b5 b6 b7) 31 (0, 0)) := (hb4.block _ (by simp)).trans (heap_new _ _)
      have zc0 : w4.cell? ⟨wr.heap.size, 0, none⟩ = some (.int .u8 b0) := by rw [cell_of_row w4 _ 0 _ _ _ hz4]; rfl
      have hrz : Hid (Row w4 (some ⟨wr.heap.size, 1, none⟩) 7 [b1, b2, b3, b4, b5, b6, b7]) := row_1 w4 wr.heap.size 0 b0 b1 b2 b3 b4 b5 b6 b7 _ okb1 okb2 okb3 okb4 okb5 okb6 okb7 hz4
      clear hb4 hz4 SG hE hQ
      by_cases hm : b0 % 128 = 0
      · rw [if_pos hm] at hr4
        subst hr4
        clear hrz
        go_wp2_with fail
        exact ⟨⟨by simp, B4, G4⟩, by decide⟩
      · rw [if_neg hm] at hr4
        obtain ⟨rfl, ht4⟩ := hr4
        have hmb : (b0 % 128 == 0) = false := by simpa using hm
        have SB : Hid (Calls Try.prog 13 #[.slice a4 7 cap4, .slice (some ⟨wr.heap.size, 1, none⟩) 7 7] w4 fun e w' => e = .returned (.bool true) ∧ w' = w4) := (same_bytes _ _ _ _ _ _ _ _ w4 ht4.row hrz.out).mono (fun e w' h => ⟨h.1.trans (by rw [beq_self_eq_true]), h.2⟩)
        have hsl := fun W => sl_7 wr.heap.size W
        clear ht4 hrz
        by_cases hq : 128 ≤ b0
        · rw [decide_eq_true hq]
          go_wp2_with fail
          with_reducible refine SB.out.mono ?_
          rintro r w5 ⟨rfl, rfl⟩
          go_wp2_with fail
          exact ⟨⟨by simp, B4, G4⟩, by decide⟩
        · rw [decide_eq_false hq]
          go_wp2_with fail
          with_reducible refine SB.out.mono ?_
          rintro r w5 ⟨rfl, rfl⟩
          go_wp2_with fail
          exact ⟨⟨by simp, B4, G4⟩, by decide⟩
    · go_wp2_with fail
      with_reducible refine (works_any _).mono ?_
      rintro r w9 ⟨rfl, hb9⟩
      have B9 : Below w.heap.size w w9 := Below.andThen hB.out hb9
      go_wp2_with fail
      go_ret
      exact ⟨rfl, B9⟩
#print axioms shortSegments_any
end Go.Proofs.Ytlnlejdjekbipaa
namespace Go.Proofs.Ytlnlejdjekbipaa
open Go.RowKit

theorem same_me (a0 a1 a2 a3 a4 a5 a6 a7 : Int) : same8 a0 a1 a2 a3 a4 a5 a6 a7 a0 a1 a2 a3 a4 a5 a6 a7 = true := by simp [same8]
theorem bgen (O : Option B8) : ∃ x0 x1 x2 x3 x4 x5 x6 x7 ec : Int, (∀ W r w', BPost W O r w' → r = .returned (.tuple #[arr8 x0 x1 x2 x3 x4 x5 x6 x7, .int .i64 ec]) ∧ Below W.heap.size W w') ∧ ((O = some ⟨x0, x1, x2, x3, x4, x5, x6, x7⟩ ∧ ec = 0) ∨ (O = none ∧ ec = 2)) := by
  cases O with
  | none => exact ⟨0, 0, 0, 0, 0, 0, 0, 0, 2, fun W r w' h => h, .inr ⟨rfl, rfl⟩⟩
  | some x => exact ⟨x.b0, x.b1, x.b2, x.b3, x.b4, x.b5, x.b6, x.b7, 0, fun W r w' h => h, .inl ⟨rfl, rfl⟩⟩

set_option linter.unusedSimpArgs false in
set_option maxHeartbeats 60000000 in
set_option maxRecDepth 100000 in
theorem shortBack_any (C D : Cm) (okC : C.Ok) (okD : D.Ok) (y : B8) (oky : y.Ok) (a1 : Option Addr) (cap1 : Nat) (a2 : Option Addr) (cap2 : Nat) (w : World) (hr1 : Row w a1 C.d.length C.d) (hr2 : Row w a2 D.d.length D.d) :
    Calls Try.prog 5 #[C.v a1 C.d.length cap1, D.v a2 D.d.length cap2, y.v] w fun e w' => e = .returned (.bool true) ∧ Below w.heap.size w w' := by
  obtain ⟨len1, hl1⟩ : ∃ len1, C.d.length = len1 := ⟨_, rfl⟩
  obtain ⟨len2, hl2⟩ : ∃ len2, D.d.length = len2 := ⟨_, rfl⟩
  have K1 : Hid (∀ W, Below w.heap.size w W → Calls Try.prog 9 #[C.v a1 len1 cap1] W (BPost W (askP C))) := fun W hb => by rw [← hl1]; exact ask_any C okC a1 cap1 W (hr1.next hb)
  have K2 : Hid (∀ W, Below w.heap.size w W → Calls Try.prog 9 #[D.v a2 len2 cap2] W (BPost W (askP D))) := fun W hb => by rw [← hl2]; exact ask_any D okD a2 cap2 W (hr2.next hb)
  have K3 : Hid (∀ W, Below w.heap.size w W → Calls Try.prog 12 #[C.v a1 len1 cap1] W (BPost W (ansP C))) := fun W hb => by rw [← hl1]; exact answer_any C okC a1 cap1 W (hr1.next hb)
  have K4 : Hid (∀ W, Below w.heap.size w W → Calls Try.prog 12 #[D.v a2 len2 cap2] W (BPost W (ansP D))) := fun W hb => by rw [← hl2]; exact answer_any D okD a2 cap2 W (hr2.next hb)
  have KS : Hid (∀ W, Below w.heap.size w W → Calls Try.prog 18 #[C.v a1 len1 cap1, D.v a2 len2 cap2] W fun r w' => r = .returned (.bool (decide (C = D))) ∧ ∃ o1 o2, w' = (W.alloc o1).alloc o2) := fun W hb => by rw [← hl1, ← hl2]; exact same_any C D a1 _ cap1 a2 _ cap2 W (hr1.next hb) (hr2.next hb)
  have KB : Hid (∀ W z a cap, Below w.heap.size w W → z = C → Row W a z.d.length z.d → Calls Try.prog 18 #[z.v a len1 cap, C.v a1 len1 cap1] W fun r w' => r = .returned (.bool true) ∧ ∃ o1 o2, w' = (W.alloc o1).alloc o2) := fun W z a cap hb hz hr => by
    subst hz
    have := same_any z z a len1 cap a1 len1 cap1 W (by rw [← hl1]; exact hr) (by rw [← hl1]; exact hr1.next hb)
    rw [decide_eq_true rfl] at this
    exact this
  rw [hl1, hl2]
  obtain ⟨xa0, xa1, xa2, xa3, xa4, xa5, xa6, xa7, ca, PA, ha⟩ := bgen (askP C)
  obtain ⟨xb0, xb1, xb2, xb3, xb4, xb5, xb6, xb7, cb, PB, hb'⟩ := bgen (askP D)
  obtain ⟨xc0, xc1, xc2, xc3, xc4, xc5, xc6, xc7, cc, PC, hc'⟩ := bgen (ansP C)
  obtain ⟨xd0, xd1, xd2, xd3, xd4, xd5, xd6, xd7, cd, PD, hd'⟩ := bgen (ansP D)
  have HPA : Hid _ := PA
  have HPB : Hid _ := PB
  have HPC : Hid _ := PC
  have HPD : Hid _ := PD
  have QA : Hid ((askP C = some ⟨xa0, xa1, xa2, xa3, xa4, xa5, xa6, xa7⟩ ∧ ca = 0) ∨ (askP C = none ∧ ca = 2)) := ha
  have QB : Hid ((askP D = some ⟨xb0, xb1, xb2, xb3, xb4, xb5, xb6, xb7⟩ ∧ cb = 0) ∨ (askP D = none ∧ cb = 2)) := hb'
  have QC : Hid ((ansP C = some ⟨xc0, xc1, xc2, xc3, xc4, xc5, xc6, xc7⟩ ∧ cc = 0) ∨ (ansP C = none ∧ cc = 2)) := hc'
  have QD : Hid ((ansP D = some ⟨xd0, xd1, xd2, xd3, xd4, xd5, xd6, xd7⟩ ∧ cd = 0) ∨ (ansP D = none ∧ cd = 2)) := hd'
  clear PA PB PC PD ha hb' hc' hd'
  obtain ⟨SM, hSM⟩ : ∃ SM, decide (C = D) = SM := ⟨_, rfl⟩
  rw [hSM] at KS
  have I1 : Hid (askP C = some ⟨xa0, xa1, xa2, xa3, xa4, xa5, xa6, xa7⟩ → askP D = some ⟨xb0, xb1, xb2, xb3, xb4, xb5, xb6, xb7⟩ → same8 xa0 xa1 xa2 xa3 xa4 xa5 xa6 xa7 xb0 xb1 xb2 xb3 xb4 xb5 xb6 xb7 = SM) := fun h1 h2 => by rw [← hSM, ← askP_inj C D okC okD _ _ h1 h2]; exact same8_iff ⟨xa0, xa1, xa2, xa3, xa4, xa5, xa6, xa7⟩ ⟨xb0, xb1, xb2, xb3, xb4, xb5, xb6, xb7⟩
  have I2 : Hid (ansP C = some ⟨xc0, xc1, xc2, xc3, xc4, xc5, xc6, xc7⟩ → ansP D = some ⟨xd0, xd1, xd2, xd3, xd4, xd5, xd6, xd7⟩ → same8 xc0 xc1 xc2 xc3 xc4 xc5 xc6 xc7 xd0 xd1 xd2 xd3 xd4 xd5 xd6 xd7 = SM) := fun h1 h2 => by rw [← hSM, ← ansP_inj C D okC okD _ _ h1 h2]; exact same8_iff ⟨xc0, xc1, xc2, xc3, xc4, xc5, xc6, xc7⟩ ⟨xd0, xd1, xd2, xd3, xd4, xd5, xd6, xd7⟩
  have J1 : Hid (∀ W, askP C = some ⟨xa0, xa1, xa2, xa3, xa4, xa5, xa6, xa7⟩ → Calls Try.prog 15 #[arr8 xa0 xa1 xa2 xa3 xa4 xa5 xa6 xa7] W (CPost W (some C))) := fun W h => by have := asked_any ⟨xa0, xa1, xa2, xa3, xa4, xa5, xa6, xa7⟩ (ask_back C okC _ h).2 W; rw [askedP_back C okC _ h] at this; exact this
  have J2 : Hid (∀ W, ansP C = some ⟨xc0, xc1, xc2, xc3, xc4, xc5, xc6, xc7⟩ → Calls Try.prog 17 #[arr8 xc0 xc1 xc2 xc3 xc4 xc5 xc6 xc7] W (CPost W (some C))) := fun W h => by have := answered_any ⟨xc0, xc1, xc2, xc3, xc4, xc5, xc6, xc7⟩ (ans_back C okC _ h).2 W; rw [answeredP_back C okC _ h] at this; exact this
  obtain ⟨O1, qO1⟩ : ∃ O1, askedP y = O1 := ⟨_, rfl⟩
  obtain ⟨O2, qO2⟩ : ∃ O2, answeredP y = O2 := ⟨_, rfl⟩
  have M1 : Hid (∀ W, Calls Try.prog 15 #[arr8 y.b0 y.b1 y.b2 y.b3 y.b4 y.b5 y.b6 y.b7] W (CPost W O1)) := fun W => qO1 ▸ asked_any y oky W
  have M2 : Hid (∀ W, Calls Try.prog 17 #[arr8 y.b0 y.b1 y.b2 y.b3 y.b4 y.b5 y.b6 y.b7] W (CPost W O2)) := fun W => qO2 ▸ answered_any y oky W
  have N1 : Hid (∀ W z a cap, O1 = some z → Row W a z.d.length z.d → Calls Try.prog 9 #[z.v a z.d.length cap] W (BPost W (some y))) := fun W z a cap h hr => by
    have e := askP_of y z (qO1.trans h)
    have := ask_any z (e.2 ▸ askR_ok y oky) a cap W hr
    rw [e.1] at this; exact this
  have N2 : Hid (∀ W z a cap, O2 = some z → Row W a z.d.length z.d → Calls Try.prog 12 #[z.v a z.d.length cap] W (BPost W (some y))) := fun W z a cap h hr => by
    have e := ansP_of y z (qO2.trans h)
    have := answer_any z (e.2 ▸ ansR_ok y oky) a cap W hr
    rw [e.1] at this; exact this
  have hlen1 : Hid (C.d.length = len1) := hl1
  clear hl1 hl2 okC okD oky hr1 hr2 hSM qO1 qO2
  obtain ⟨k1, i1, s1, z1, n1, q1, d1, t1, l1, c1, b1, e1, u1, m1, o1⟩ := C
  obtain ⟨k2, i2, s2, z2, n2, q2, d2, t2, l2, c2, b2, e2, u2, m2, o2⟩ := D
  obtain ⟨y0, y1, y2, y3, y4, y5, y6, y7⟩ := y
  dsimp only at *
  by_cases hg1 : 100 < (len1 : Int)
  · go_enter Try.func5, Try.ntmps5
    go_wp2_with fail
    go_ret
    exact ⟨rfl, (by repeat (first | exact Below.refl _ _ | apply Below.drew | apply Below.al))⟩
  by_cases hg2 : 100 < (len2 : Int)
  · go_enter Try.func5, Try.ntmps5
    go_wp2_with fail
    go_ret
    exact ⟨rfl, (by repeat (first | exact Below.refl _ _ | apply Below.drew | apply Below.al))⟩
  have hq8 := eql8
  have hn8 := neq8
  go_enter Try.func5, Try.ntmps5
  go_wp2_with fail
  with_reducible refine (K1.out _ (by repeat (first | exact Below.refl _ _ | apply Below.drew | apply Below.al))).mono ?_
  intro r w1 hpp
  obtain ⟨rfl, hbb⟩ := HPA.out _ _ _ hpp
  clear hpp
  have B1 : Hid (Below w.heap.size w w1) := Below.andThen (by repeat (first | exact Below.refl _ _ | apply Below.drew | apply Below.al)) hbb
  have GC1 : w1.heap[w.heap.size]? = some (.cells (cmC k1 i1 s1 z1 n1 q1 a1 len1 cap1 t1 l1 c1 b1 e1 u1 m1 o1) 29 (0, 0)) := (hbb.block _ (by first | (simp; done) | (simp; omega))).trans (by repeat (first | exact heap_at _ _ _ (by simp) | rw [heap_drew] | rw [Below.heap_alloc _ _ _ (by first | (simp; done) | (simp; omega))]))
  have GD1 : w1.heap[w.heap.size + 1]? = some (.cells (cmC k2 i2 s2 z2 n2 q2 a2 len2 cap2 t2 l2 c2 b2 e2 u2 m2 o2) 29 (0, 0)) := (hbb.block _ (by first | (simp; done) | (simp; omega))).trans (by repeat (first | exact heap_at _ _ _ (by simp) | rw [heap_drew] | rw [Below.heap_alloc _ _ _ (by first | (simp; done) | (simp; omega))]))
  have GY1 : w1.heap[w.heap.size + 1 + 1]? = some (.cells (ar8 y0 y1 y2 y3 y4 y5 y6 y7) 31 (0, 0)) := (hbb.block _ (by first | (simp; done) | (simp; omega))).trans (by repeat (first | exact heap_at _ _ _ (by simp) | rw [heap_drew] | rw [Below.heap_alloc _ _ _ (by first | (simp; done) | (simp; omega))]))
  have szGC1 : w.heap.size < w1.heap.size := (Array.getElem?_eq_some_iff.1 GC1).1
  have szGD1 : w.heap.size + 1 < w1.heap.size := (Array.getElem?_eq_some_iff.1 GD1).1
  have szGY1 : w.heap.size + 1 + 1 < w1.heap.size := (Array.getElem?_eq_some_iff.1 GY1).1
  have r0 : w1.cell? ⟨w.heap.size + 1, 0, none⟩ = some (.int .u8 k2) := by rw [cell_of_row w1 _ 0 _ _ _ GD1]; rfl
  have r1 : w1.cell? ⟨w.heap.size + 1, 1, none⟩ = some (.int .u16 i2) := by rw [cell_of_row w1 _ 1 _ _ _ GD1]; rfl
  have r2 : w1.cell? ⟨w.heap.size + 1, 2, none⟩ = some (.int .u8 s2) := by rw [cell_of_row w1 _ 2 _ _ _ GD1]; rfl
  have r3 : w1.cell? ⟨w.heap.size + 1, 3, none⟩ = some (.bool z2) := by rw [cell_of_row w1 _ 3 _ _ _ GD1]; rfl
  have r4 : w1.cell? ⟨w.heap.size + 1, 4, none⟩ = some (.int .u32 n2) := by rw [cell_of_row w1 _ 4 _ _ _ GD1]; rfl
  have r5 : w1.cell? ⟨w.heap.size + 1, 5, none⟩ = some (.bool q2) := by rw [cell_of_row w1 _ 5 _ _ _ GD1]; rfl
  have r6 : w1.cell? ⟨w.heap.size + 1, 6, none⟩ = some (.slice a2 len2 cap2) := by rw [cell_of_row w1 _ 6 _ _ _ GD1]; rfl
  have r7 : w1.cell? ⟨w.heap.size + 1, 7, none⟩ = some (.bool t2) := by rw [cell_of_row w1 _ 7 _ _ _ GD1]; rfl
  have r8 : w1.cell? ⟨w.heap.size + 1, 8, none⟩ = some (.bool l2) := by rw [cell_of_row w1 _ 8 _ _ _ GD1]; rfl
  have r9 : w1.cell? ⟨w.heap.size + 1, 9, none⟩ = some (.bool c2) := by rw [cell_of_row w1 _ 9 _ _ _ GD1]; rfl
  have r10 : w1.cell? ⟨w.heap.size + 1, 10, none⟩ = some (.int .i64 b2) := by rw [cell_of_row w1 _ 10 _ _ _ GD1]; rfl
  have r11 : w1.cell? ⟨w.heap.size + 1, 11, none⟩ = some (.int .i64 e2) := by rw [cell_of_row w1 _ 11 _ _ _ GD1]; rfl
  have r12 : w1.cell? ⟨w.heap.size + 1, 12, none⟩ = some (.int .u16 u2) := by rw [cell_of_row w1 _ 12 _ _ _ GD1]; rfl
  have r13 : w1.cell? ⟨w.heap.size + 1, 13, none⟩ = some (.int .i64 m2) := by rw [cell_of_row w1 _ 13 _ _ _ GD1]; rfl
  have r14 : w1.cell? ⟨w.heap.size + 1, 14, none⟩ = some (.int .u32 o2) := by rw [cell_of_row w1 _ 14 _ _ _ GD1]; rfl
  clear hbb
  go_wp2_with fail
  clear r0 r1 r2 r3 r4 r5 r6 r7 r8 r9 r10 r11 r12 r13 r14
  with_reducible refine (K2.out _ (Below.al B1.out _)).mono ?_
  intro r w2 hpp
  obtain ⟨rfl, hbb⟩ := HPB.out _ _ _ hpp
  clear hpp
  have B2 : Hid (Below w.heap.size w w2) := Below.andThen (Below.al B1.out _) hbb
  have GC2 : w2.heap[w.heap.size]? = some (.cells (cmC k1 i1 s1 z1 n1 q1 a1 len1 cap1 t1 l1 c1 b1 e1 u1 m1 o1) 29 (0, 0)) := (hbb.block _ (by simp; omega)).trans ((Below.heap_alloc _ _ _ (Array.getElem?_eq_some_iff.1 GC1).1).trans GC1)
  have GD2 : w2.heap[w.heap.size + 1]? = some (.cells (cmC k2 i2 s2 z2 n2 q2 a2 len2 cap2 t2 l2 c2 b2 e2 u2 m2 o2) 29 (0, 0)) := (hbb.block _ (by simp; omega)).trans ((Below.heap_alloc _ _ _ (Array.getElem?_eq_some_iff.1 GD1).1).trans GD1)
  have GY2 : w2.heap[w.heap.size + 1 + 1]? = some (.cells (ar8 y0 y1 y2 y3 y4 y5 y6 y7) 31 (0, 0)) := (hbb.block _ (by simp; omega)).trans ((Below.heap_alloc _ _ _ (Array.getElem?_eq_some_iff.1 GY1).1).trans GY1)
  have Gxa2 : w2.heap[w1.heap.size]? = some (.cells (ar8 xa0 xa1 xa2 xa3 xa4 xa5 xa6 xa7) 31 (0, 0)) := (hbb.block _ (by simp)).trans (heap_new _ _)
  clear GC1 GD1 GY1
  have szGC2 : w.heap.size < w2.heap.size := (Array.getElem?_eq_some_iff.1 GC2).1
  have szGD2 : w.heap.size + 1 < w2.heap.size := (Array.getElem?_eq_some_iff.1 GD2).1
  have szGY2 : w.heap.size + 1 + 1 < w2.heap.size := (Array.getElem?_eq_some_iff.1 GY2).1
  have szGxa2 : w1.heap.size < w2.heap.size := (Array.getElem?_eq_some_iff.1 Gxa2).1
  have r0 : w2.cell? ⟨w.heap.size, 0, none⟩ = some (.int .u8 k1) := by rw [cell_of_row w2 _ 0 _ _ _ GC2]; rfl
  have r1 : w2.cell? ⟨w.heap.size, 1, none⟩ = some (.int .u16 i1) := by rw [cell_of_row w2 _ 1 _ _ _ GC2]; rfl
  have r2 : w2.cell? ⟨w.heap.size, 2, none⟩ = some (.int .u8 s1) := by rw [cell_of_row w2 _ 2 _ _ _ GC2]; rfl
  have r3 : w2.cell? ⟨w.heap.size, 3, none⟩ = some (.bool z1) := by rw [cell_of_row w2 _ 3 _ _ _ GC2]; rfl
  have r4 : w2.cell? ⟨w.heap.size, 4, none⟩ = some (.int .u32 n1) := by rw [cell_of_row w2 _ 4 _ _ _ GC2]; rfl
  have r5 : w2.cell? ⟨w.heap.size, 5, none⟩ = some (.bool q1) := by rw [cell_of_row w2 _ 5 _ _ _ GC2]; rfl
  have r6 : w2.cell? ⟨w.heap.size, 6, none⟩ = some (.slice a1 len1 cap1) := by rw [cell_of_row w2 _ 6 _ _ _ GC2]; rfl
  have r7 : w2.cell? ⟨w.heap.size, 7, none⟩ = some (.bool t1) := by rw [cell_of_row w2 _ 7 _ _ _ GC2]; rfl
  have r8 : w2.cell? ⟨w.heap.size, 8, none⟩ = some (.bool l1) := by rw [cell_of_row w2 _ 8 _ _ _ GC2]; rfl
  have r9 : w2.cell? ⟨w.heap.size, 9, none⟩ = some (.bool c1) := by rw [cell_of_row w2 _ 9 _ _ _ GC2]; rfl
  have r10 : w2.cell? ⟨w.heap.size, 10, none⟩ = some (.int .i64 b1) := by rw [cell_of_row w2 _ 10 _ _ _ GC2]; rfl
  have r11 : w2.cell? ⟨w.heap.size, 11, none⟩ = some (.int .i64 e1) := by rw [cell_of_row w2 _ 11 _ _ _ GC2]; rfl
  have r12 : w2.cell? ⟨w.heap.size, 12, none⟩ = some (.int .u16 u1) := by rw [cell_of_row w2 _ 12 _ _ _ GC2]; rfl
  have r13 : w2.cell? ⟨w.heap.size, 13, none⟩ = some (.int .i64 m1) := by rw [cell_of_row w2 _ 13 _ _ _ GC2]; rfl
  have r14 : w2.cell? ⟨w.heap.size, 14, none⟩ = some (.int .u32 o1) := by rw [cell_of_row w2 _ 14 _ _ _ GC2]; rfl
  clear hbb
  go_wp2_with fail
  clear r0 r1 r2 r3 r4 r5 r6 r7 r8 r9 r10 r11 r12 r13 r14
  with_reducible refine (K3.out _ (Below.al B2.out _)).mono ?_
  intro r w3 hpp
  obtain ⟨rfl, hbb⟩ := HPC.out _ _ _ hpp
  clear hpp
  have B3 : Hid (Below w.heap.size w w3) := Below.andThen (Below.al B2.out _) hbb
  have GC3 : w3.heap[w.heap.size]? = some (.cells (cmC k1 i1 s1 z1 n1 q1 a1 len1 cap1 t1 l1 c1 b1 e1 u1 m1 o1) 29 (0, 0)) := (hbb.block _ (by simp; omega)).trans ((Below.heap_alloc _ _ _ (Array.getElem?_eq_some_iff.1 GC2).1).trans GC2)
  have GD3 : w3.heap[w.heap.size + 1]? = some (.cells (cmC k2 i2 s2 z2 n2 q2 a2 len2 cap2 t2 l2 c2 b2 e2 u2 m2 o2) 29 (0, 0)) := (hbb.block _ (by simp; omega)).trans ((Below.heap_alloc _ _ _ (Array.getElem?_eq_some_iff.1 GD2).1).trans GD2)
  have GY3 : w3.heap[w.heap.size + 1 + 1]? = some (.cells (ar8 y0 y1 y2 y3 y4 y5 y6 y7) 31 (0, 0)) := (hbb.block _ (by simp; omega)).trans ((Below.heap_alloc _ _ _ (Array.getElem?_eq_some_iff.1 GY2).1).trans GY2)
  have Gxa3 : w3.heap[w1.heap.size]? = some (.cells (ar8 xa0 xa1 xa2 xa3 xa4 xa5 xa6 xa7) 31 (0, 0)) := (hbb.block _ (by simp; omega)).trans ((Below.heap_alloc _ _ _ (Array.getElem?_eq_some_iff.1 Gxa2).1).trans Gxa2)
  have Gxb3 : w3.heap[w2.heap.size]? = some (.cells (ar8 xb0 xb1 xb2 xb3 xb4 xb5 xb6 xb7) 31 (0, 0)) := (hbb.block _ (by simp)).trans (heap_new _ _)
  clear GC2 GD2 GY2 Gxa2
  have szGC3 : w.heap.size < w3.heap.size := (Array.getElem?_eq_some_iff.1 GC3).1
  have szGD3 : w.heap.size + 1 < w3.heap.size := (Array.getElem?_eq_some_iff.1 GD3).1
  have szGY3 : w.heap.size + 1 + 1 < w3.heap.size := (Array.getElem?_eq_some_iff.1 GY3).1
  have szGxa3 : w1.heap.size < w3.heap.size := (Array.getElem?_eq_some_iff.1 Gxa3).1
  have szGxb3 : w2.heap.size < w3.heap.size := (Array.getElem?_eq_some_iff.1 Gxb3).1
  have r0 : w3.cell? ⟨w.heap.size + 1, 0, none⟩ = some (.int .u8 k2) := by rw [cell_of_row w3 _ 0 _ _ _ GD3]; rfl
  have r1 : w3.cell? ⟨w.heap.size + 1, 1, none⟩ = some (.int .u16 i2) := by rw [cell_of_row w3 _ 1 _ _ _ GD3]; rfl
  have r2 : w3.cell? ⟨w.heap.size + 1, 2, none⟩ = some (.int .u8 s2) := by rw [cell_of_row w3 _ 2 _ _ _ GD3]; rfl
  have r3 : w3.cell? ⟨w.heap.size + 1, 3, none⟩ = some (.bool z2) := by rw [cell_of_row w3 _ 3 _ _ _ GD3]; rfl
  have r4 : w3.cell? ⟨w.heap.size + 1, 4, none⟩ = some (.int .u32 n2) := by rw [cell_of_row w3 _ 4 _ _ _ GD3]; rfl
  have r5 : w3.cell? ⟨w.heap.size + 1, 5, none⟩ = some (.bool q2) := by rw [cell_of_row w3 _ 5 _ _ _ GD3]; rfl
  have r6 : w3.cell? ⟨w.heap.size + 1, 6, none⟩ = some (.slice a2 len2 cap2) := by rw [cell_of_row w3 _ 6 _ _ _ GD3]; rfl
  have r7 : w3.cell? ⟨w.heap.size + 1, 7, none⟩ = some (.bool t2) := by rw [cell_of_row w3 _ 7 _ _ _ GD3]; rfl
  have r8 : w3.cell? ⟨w.heap.size + 1, 8, none⟩ = some (.bool l2) := by rw [cell_of_row w3 _ 8 _ _ _ GD3]; rfl
  have r9 : w3.cell? ⟨w.heap.size + 1, 9, none⟩ = some (.bool c2) := by rw [cell_of_row w3 _ 9 _ _ _ GD3]; rfl
  have r10 : w3.cell? ⟨w.heap.size + 1, 10, none⟩ = some (.int .i64 b2) := by rw [cell_of_row w3 _ 10 _ _ _ GD3]; rfl
  have r11 : w3.cell? ⟨w.heap.size + 1, 11, none⟩ = some (.int .i64 e2) := by rw [cell_of_row w3 _ 11 _ _ _ GD3]; rfl
  have r12 : w3.cell? ⟨w.heap.size + 1, 12, none⟩ = some (.int .u16 u2) := by rw [cell_of_row w3 _ 12 _ _ _ GD3]; rfl
  have r13 : w3.cell? ⟨w.heap.size + 1, 13, none⟩ = some (.int .i64 m2) := by rw [cell_of_row w3 _ 13 _ _ _ GD3]; rfl
  have r14 : w3.cell? ⟨w.heap.size + 1, 14, none⟩ = some (.int .u32 o2) := by rw [cell_of_row w3 _ 14 _ _ _ GD3]; rfl
  clear hbb
  go_wp2_with fail
  clear r0 r1 r2 r3 r4 r5 r6 r7 r8 r9 r10 r11 r12 r13 r14
  with_reducible refine (K4.out _ (Below.al B3.out _)).mono ?_
  intro r w4 hpp
  obtain ⟨rfl, hbb⟩ := HPD.out _ _ _ hpp
  clear hpp
  have B4 : Hid (Below w.heap.size w w4) := Below.andThen (Below.al B3.out _) hbb
  have GC4 : w4.heap[w.heap.size]? = some (.cells (cmC k1 i1 s1 z1 n1 q1 a1 len1 cap1 t1 l1 c1 b1 e1 u1 m1 o1) 29 (0, 0)) := (hbb.block _ (by simp; omega)).trans ((Below.heap_alloc _ _ _ (Array.getElem?_eq_some_iff.1 GC3).1).trans GC3)
  have GD4 : w4.heap[w.heap.size + 1]? = some (.cells (cmC k2 i2 s2 z2 n2 q2 a2 len2 cap2 t2 l2 c2 b2 e2 u2 m2 o2) 29 (0, 0)) := (hbb.block _ (by simp; omega)).trans ((Below.heap_alloc _ _ _ (Array.getElem?_eq_some_iff.1 GD3).1).trans GD3)
  have GY4 : w4.heap[w.heap.size + 1 + 1]? = some (.cells (ar8 y0 y1 y2 y3 y4 y5 y6 y7) 31 (0, 0)) := (hbb.block _ (by simp; omega)).trans ((Below.heap_alloc _ _ _ (Array.getElem?_eq_some_iff.1 GY3).1).trans GY3)
  have Gxa4 : w4.heap[w1.heap.size]? = some (.cells (ar8 xa0 xa1 xa2 xa3 xa4 xa5 xa6 xa7) 31 (0, 0)) := (hbb.block _ (by simp; omega)).trans ((Below.heap_alloc _ _ _ (Array.getElem?_eq_some_iff.1 Gxa3).1).trans Gxa3)
  have Gxb4 : w4.heap[w2.heap.size]? = some (.cells (ar8 xb0 xb1 xb2 xb3 xb4 xb5 xb6 xb7) 31 (0, 0)) := (hbb.block _ (by simp; omega)).trans ((Below.heap_alloc _ _ _ (Array.getElem?_eq_some_iff.1 Gxb3).1).trans Gxb3)
  have Gxc4 : w4.heap[w3.heap.size]? = some (.cells (ar8 xc0 xc1 xc2 xc3 xc4 xc5 xc6 xc7) 31 (0, 0)) := (hbb.block _ (by simp)).trans (heap_new _ _)
  clear GC3 GD3 GY3 Gxa3 Gxb3
  have szGC4 : w.heap.size < w4.heap.size := (Array.getElem?_eq_some_iff.1 GC4).1
  have szGD4 : w.heap.size + 1 < w4.heap.size := (Array.getElem?_eq_some_iff.1 GD4).1
  have szGY4 : w.heap.size + 1 + 1 < w4.heap.size := (Array.getElem?_eq_some_iff.1 GY4).1
  have szGxa4 : w1.heap.size < w4.heap.size := (Array.getElem?_eq_some_iff.1 Gxa4).1
  have szGxb4 : w2.heap.size < w4.heap.size := (Array.getElem?_eq_some_iff.1 Gxb4).1
  have szGxc4 : w3.heap.size < w4.heap.size := (Array.getElem?_eq_some_iff.1 Gxc4).1
  clear hbb
  have B4' := B4.out
  go_wp2_with fail
  refine wp_region_held_drew (S := fun x => Below w.heap.size w x ∧ x.heap[w.heap.size]? = some (.cells (cmC k1 i1 s1 z1 n1 q1 a1 len1 cap1 t1 l1 c1 b1 e1 u1 m1 o1) 29 (0, 0)) ∧ x.heap[w.heap.size + 1]? = some (.cells (cmC k2 i2 s2 z2 n2 q2 a2 len2 cap2 t2 l2 c2 b2 e2 u2 m2 o2) 29 (0, 0))) (by kernel_rfl) (⟨Below.drew (Below.al B4' _), (heap_drew _ _).trans (ext_al GC4), (heap_drew _ _).trans (ext_al GD4)⟩) (fun hHeld => ?_)
  obtain ⟨hW, hB, hD⟩ := id hHeld
  refine tk 0 (cmV k1 i1 s1 z1 n1 q1 a1 len1 cap1 t1 l1 c1 b1 e1 u1 m1 o1) rfl (.inl ⟨by rfl, ?_⟩) ?_
  · intro w9 hSw
    try dsimp only at hSw
    exact ex_load 29 (.tmp 3) rfl _ _ rfl (loadCM _ _ _ _ _ _ _ _ _ _ _ _ _ _ _ _ _ _ _ _ hSw.2.1)
  try simp only [Act.put, gA, gS, gZ, sA, sZ, sS]
  refine tk 2 (cmV k2 i2 s2 z2 n2 q2 a2 len2 cap2 t2 l2 c2 b2 e2 u2 m2 o2) rfl (.inl ⟨by rfl, ?_⟩) ?_
  · intro w9 hSw
    try dsimp only at hSw
    exact ex_load 29 (.tmp 4) rfl _ _ rfl (loadCM _ _ _ _ _ _ _ _ _ _ _ _ _ _ _ _ _ _ _ _ hSw.2.2)
  try simp only [Act.put, gA, gS, gZ, sA, sZ, sS]
  refine wpAnyH_ready (rs := [1]) (by kernel_rfl) (by simp) ?_
  refine AllReadyH.cons rfl (fun K' hK => ?_) AllReadyH.nil
  rw [if_pos (by rfl)]
  simp only [gA, gS, gZ]
  go_wp2_with fail
  refine (ref_any k1 i1 s1 z1 n1 q1 a1 len1 cap1 t1 l1 c1 b1 e1 u1 m1 o1 _).mono ?_
  rintro r ww1 ⟨rfl, ob1, ob2, rfl⟩
  try go_wp2_with fail
  refine hK.out _ _ (⟨Below.al (Below.al hW _) _, ext_al (ext_al hB), ext_al (ext_al hD)⟩) (fun hHeld => ?_)
  clear hK K'
  try simp only [Act.put, gA, gS, gZ, sA, sZ, sS]
  clear hW hB hD
  obtain ⟨hW, hB, hD⟩ := id hHeld
  refine wpAnyH_ready (rs := [3]) (by kernel_rfl) (by simp) ?_
  refine AllReadyH.cons rfl (fun K' hK => ?_) AllReadyH.nil
  rw [if_pos (by rfl)]
  simp only [gA, gS, gZ]
  go_wp2_with fail
  refine (ref_any k2 i2 s2 z2 n2 q2 a2 len2 cap2 t2 l2 c2 b2 e2 u2 m2 o2 _).mono ?_
  rintro r ww2 ⟨rfl, ob3, ob4, rfl⟩
  try go_wp2_with fail
  refine hK.out _ _ (⟨Below.al (Below.al hW _) _, ext_al (ext_al hB), ext_al (ext_al hD)⟩) (fun hHeld => ?_)
  clear hK K'
  try simp only [Act.put, gA, gS, gZ, sA, sZ, sS]
  clear hW hB hD
  obtain ⟨hW, hB, hD⟩ := id hHeld
  refine wpAnyH_ready (rs := [4]) (by kernel_rfl) (by simp) ?_
  refine AllReadyH.cons rfl (fun K' hK => ?_) AllReadyH.nil
  rw [if_pos (by rfl)]
  simp only [gA, gS, gZ]
  go_wp2_with fail
  refine (KS.out _ hW).mono ?_
  rintro r ww3 ⟨rfl, ob5, ob6, rfl⟩
  try go_wp2_with fail
  refine hK.out _ _ (⟨Below.al (Below.al hW _) _, ext_al (ext_al hB), ext_al (ext_al hD)⟩) (fun hHeld => ?_)
  clear hK K'
  try simp only [Act.put, gA, gS, gZ, sA, sZ, sS]
  clear hW hB hD
  obtain ⟨hW, hB, hD⟩ := id hHeld
  refine tk 5 (.bool SM) rfl (.inl ⟨by rfl, ?_⟩) ?_
  · intro w9 hSw
    try dsimp only at hSw
    go_simp
    all_goals try decide
    all_goals try assumption
    all_goals try omega
  try simp only [Act.put, gA, gS, gZ, sA, sZ, sS]
  refine wpAnyH_done (by kernel_rfl) ?_ _
  have Hxa : Hid ((((((((w4.alloc (.cells (ar8 xd0 xd1 xd2 xd3 xd4 xd5 xd6 xd7) 31)).alloc ob1).alloc ob2).alloc ob3).alloc ob4).alloc ob5).alloc ob6).drew.heap[w1.heap.size]? = some (.cells (ar8 xa0 xa1 xa2 xa3 xa4 xa5 xa6 xa7) 31 (0, 0))) := (heap_drew _ _).trans (ext_al (ext_al (ext_al (ext_al (ext_al (ext_al (ext_al Gxa4)))))))
  have Hxb : Hid ((((((((w4.alloc (.cells (ar8 xd0 xd1 xd2 xd3 xd4 xd5 xd6 xd7) 31)).alloc ob1).alloc ob2).alloc ob3).alloc ob4).alloc ob5).alloc ob6).drew.heap[w2.heap.size]? = some (.cells (ar8 xb0 xb1 xb2 xb3 xb4 xb5 xb6 xb7) 31 (0, 0))) := (heap_drew _ _).trans (ext_al (ext_al (ext_al (ext_al (ext_al (ext_al (ext_al Gxb4)))))))
  have Hxc : Hid ((((((((w4.alloc (.cells (ar8 xd0 xd1 xd2 xd3 xd4 xd5 xd6 xd7) 31)).alloc ob1).alloc ob2).alloc ob3).alloc ob4).alloc ob5).alloc ob6).drew.heap[w3.heap.size]? = some (.cells (ar8 xc0 xc1 xc2 xc3 xc4 xc5 xc6 xc7) 31 (0, 0))) := (heap_drew _ _).trans (ext_al (ext_al (ext_al (ext_al (ext_al (ext_al (ext_al Gxc4)))))))
  have Hxd : Hid ((((((((w4.alloc (.cells (ar8 xd0 xd1 xd2 xd3 xd4 xd5 xd6 xd7) 31)).alloc ob1).alloc ob2).alloc ob3).alloc ob4).alloc ob5).alloc ob6).drew.heap[w4.heap.size]? = some (.cells (ar8 xd0 xd1 xd2 xd3 xd4 xd5 xd6 xd7) 31 (0, 0))) := (heap_drew _ _).trans (ext_al (ext_al (ext_al (ext_al (ext_al (ext_al (heap_new _ _)))))))
  have ZB : Hid (Below w.heap.size w (((((((w4.alloc (.cells (ar8 xd0 xd1 xd2 xd3 xd4 xd5 xd6 xd7) 31)).alloc ob1).alloc ob2).alloc ob3).alloc ob4).alloc ob5).alloc ob6).drew) := (Below.drew (Below.al (Below.al (Below.al (Below.al (Below.al (Below.al (Below.al B4' _) _) _) _) _) _) _))
  have ZGC : Hid ((((((((w4.alloc (.cells (ar8 xd0 xd1 xd2 xd3 xd4 xd5 xd6 xd7) 31)).alloc ob1).alloc ob2).alloc ob3).alloc ob4).alloc ob5).alloc ob6).drew.heap[w.heap.size]? = some (.cells (cmC k1 i1 s1 z1 n1 q1 a1 len1 cap1 t1 l1 c1 b1 e1 u1 m1 o1) 29 (0, 0))) := ((heap_drew _ _).trans (ext_al (ext_al (ext_al (ext_al (ext_al (ext_al (ext_al GC4))))))))
  have ZGY : Hid ((((((((w4.alloc (.cells (ar8 xd0 xd1 xd2 xd3 xd4 xd5 xd6 xd7) 31)).alloc ob1).alloc ob2).alloc ob3).alloc ob4).alloc ob5).alloc ob6).drew.heap[w.heap.size + 1 + 1]? = some (.cells (ar8 y0 y1 y2 y3 y4 y5 y6 y7) 31 (0, 0))) := ((heap_drew _ _).trans (ext_al (ext_al (ext_al (ext_al (ext_al (ext_al (ext_al GY4))))))))
  have ZGxa : Hid ((((((((w4.alloc (.cells (ar8 xd0 xd1 xd2 xd3 xd4 xd5 xd6 xd7) 31)).alloc ob1).alloc ob2).alloc ob3).alloc ob4).alloc ob5).alloc ob6).drew.heap[w1.heap.size]? = some (.cells (ar8 xa0 xa1 xa2 xa3 xa4 xa5 xa6 xa7) 31 (0, 0))) := ((heap_drew _ _).trans (ext_al (ext_al (ext_al (ext_al (ext_al (ext_al (ext_al Gxa4))))))))
  have ZGxc : Hid ((((((((w4.alloc (.cells (ar8 xd0 xd1 xd2 xd3 xd4 xd5 xd6 xd7) 31)).alloc ob1).alloc ob2).alloc ob3).alloc ob4).alloc ob5).alloc ob6).drew.heap[w3.heap.size]? = some (.cells (ar8 xc0 xc1 xc2 xc3 xc4 xc5 xc6 xc7) 31 (0, 0))) := ((heap_drew _ _).trans (ext_al (ext_al (ext_al (ext_al (ext_al (ext_al (ext_al Gxc4))))))))
  go_upto_region 8 with fail
  go_cut [88] from 16 (fun s88 wx => s88 = .bool false ∧ Hid (Below w.heap.size w wx) ∧ Hid (wx.heap[w.heap.size]? = some (.cells (cmC k1 i1 s1 z1 n1 q1 a1 len1 cap1 t1 l1 c1 b1 e1 u1 m1 o1) 29 (0, 0))) ∧ Hid (wx.heap[w.heap.size + 1 + 1]? = some (.cells (ar8 y0 y1 y2 y3 y4 y5 y6 y7) 31 (0, 0))) ∧ Hid (wx.heap[w1.heap.size]? = some (.cells (ar8 xa0 xa1 xa2 xa3 xa4 xa5 xa6 xa7) 31 (0, 0))) ∧ Hid (wx.heap[w3.heap.size]? = some (.cells (ar8 xc0 xc1 xc2 xc3 xc4 xc5 xc6 xc7) 31 (0, 0))))
  case first =>
    rcases QA.out with ⟨oa, rfl⟩ | ⟨oa, rfl⟩ <;> rcases QB.out with ⟨ob, rfl⟩ | ⟨ob, rfl⟩ <;> rcases QC.out with ⟨oc, rfl⟩ | ⟨oc, rfl⟩ <;> rcases QD.out with ⟨od, rfl⟩ | ⟨od, rfl⟩
    · as_aux_lemma =>
        have hI1 := I1.out oa ob
        have fxa0 : (((((((w4.alloc (.cells (ar8 xd0 xd1 xd2 xd3 xd4 xd5 xd6 xd7) 31)).alloc ob1).alloc ob2).alloc ob3).alloc ob4).alloc ob5).alloc ob6).drew.cell? ⟨w1.heap.size, 0, none⟩ = some (.int .u8 xa0) := by rw [cell_of_row _ _ 0 _ _ _ Hxa.out]; rfl
        have fxa1 : (((((((w4.alloc (.cells (ar8 xd0 xd1 xd2 xd3 xd4 xd5 xd6 xd7) 31)).alloc ob1).alloc ob2).alloc ob3).alloc ob4).alloc ob5).alloc ob6).drew.cell? ⟨w1.heap.size, 1, none⟩ = some (.int .u8 xa1) := by rw [cell_of_row _ _ 1 _ _ _ Hxa.out]; rfl
        have fxa2 : (((((((w4.alloc (.cells (ar8 xd0 xd1 xd2 xd3 xd4 xd5 xd6 xd7) 31)).alloc ob1).alloc ob2).alloc ob3).alloc ob4).alloc ob5).alloc ob6).drew.cell? ⟨w1.heap.size, 2, none⟩ = some (.int .u8 xa2) := by rw [cell_of_row _ _ 2 _ _ _ Hxa.out]; rfl
        have fxa3 : (((((((w4.alloc (.cells (ar8 xd0 xd1 xd2 xd3 xd4 xd5 xd6 xd7) 31)).alloc ob1).alloc ob2).alloc ob3).alloc ob4).alloc ob5).alloc ob6).drew.cell? ⟨w1.heap.size, 3, none⟩ = some (.int .u8 xa3) := by rw [cell_of_row _ _ 3 _ _ _ Hxa.out]; rfl
        have fxa4 : (((((((w4.alloc (.cells (ar8 xd0 xd1 xd2 xd3 xd4 xd5 xd6 xd7) 31)).alloc ob1).alloc ob2).alloc ob3).alloc ob4).alloc ob5).alloc ob6).drew.cell? ⟨w1.heap.size, 4, none⟩ = some (.int .u8 xa4) := by rw [cell_of_row _ _ 4 _ _ _ Hxa.out]; rfl
        have fxa5 : (((((((w4.alloc (.cells (ar8 xd0 xd1 xd2 xd3 xd4 xd5 xd6 xd7) 31)).alloc ob1).alloc ob2).alloc ob3).alloc ob4).alloc ob5).alloc ob6).drew.cell? ⟨w1.heap.size, 5, none⟩ = some (.int .u8 xa5) := by rw [cell_of_row _ _ 5 _ _ _ Hxa.out]; rfl
        have fxa6 : (((((((w4.alloc (.cells (ar8 xd0 xd1 xd2 xd3 xd4 xd5 xd6 xd7) 31)).alloc ob1).alloc ob2).alloc ob3).alloc ob4).alloc ob5).alloc ob6).drew.cell? ⟨w1.heap.size, 6, none⟩ = some (.int .u8 xa6) := by rw [cell_of_row _ _ 6 _ _ _ Hxa.out]; rfl
        have fxa7 : (((((((w4.alloc (.cells (ar8 xd0 xd1 xd2 xd3 xd4 xd5 xd6 xd7) 31)).alloc ob1).alloc ob2).alloc ob3).alloc ob4).alloc ob5).alloc ob6).drew.cell? ⟨w1.heap.size, 7, none⟩ = some (.int .u8 xa7) := by rw [cell_of_row _ _ 7 _ _ _ Hxa.out]; rfl
        have fxb0 : (((((((w4.alloc (.cells (ar8 xd0 xd1 xd2 xd3 xd4 xd5 xd6 xd7) 31)).alloc ob1).alloc ob2).alloc ob3).alloc ob4).alloc ob5).alloc ob6).drew.cell? ⟨w2.heap.size, 0, none⟩ = some (.int .u8 xb0) := by rw [cell_of_row _ _ 0 _ _ _ Hxb.out]; rfl
        have fxb1 : (((((((w4.alloc (.cells (ar8 xd0 xd1 xd2 xd3 xd4 xd5 xd6 xd7) 31)).alloc ob1).alloc ob2).alloc ob3).alloc ob4).alloc ob5).alloc ob6).drew.cell? ⟨w2.heap.size, 1, none⟩ = some (.int .u8 xb1) := by rw [cell_of_row _ _ 1 _ _ _ Hxb.out]; rfl
        have fxb2 : (((((((w4.alloc (.cells (ar8 xd0 xd1 xd2 xd3 xd4 xd5 xd6 xd7) 31)).alloc ob1).alloc ob2).alloc ob3).alloc ob4).alloc ob5).alloc ob6).drew.cell? ⟨w2.heap.size, 2, none⟩ = some (.int .u8 xb2) := by rw [cell_of_row _ _ 2 _ _ _ Hxb.out]; rfl
        have fxb3 : (((((((w4.alloc (.cells (ar8 xd0 xd1 xd2 xd3 xd4 xd5 xd6 xd7) 31)).alloc ob1).alloc ob2).alloc ob3).alloc ob4).alloc ob5).alloc ob6).drew.cell? ⟨w2.heap.size, 3, none⟩ = some (.int .u8 xb3) := by rw [cell_of_row _ _ 3 _ _ _ Hxb.out]; rfl
        have fxb4 : (((((((w4.alloc (.cells (ar8 xd0 xd1 xd2 xd3 xd4 xd5 xd6 xd7) 31)).alloc ob1).alloc ob2).alloc ob3).alloc ob4).alloc ob5).alloc ob6).drew.cell? ⟨w2.heap.size, 4, none⟩ = some (.int .u8 xb4) := by rw [cell_of_row _ _ 4 _ _ _ Hxb.out]; rfl
        have fxb5 : (((((((w4.alloc (.cells (ar8 xd0 xd1 xd2 xd3 xd4 xd5 xd6 xd7) 31)).alloc ob1).alloc ob2).alloc ob3).alloc ob4).alloc ob5).alloc ob6).drew.cell? ⟨w2.heap.size, 5, none⟩ = some (.int .u8 xb5) := by rw [cell_of_row _ _ 5 _ _ _ Hxb.out]; rfl
        have fxb6 : (((((((w4.alloc (.cells (ar8 xd0 xd1 xd2 xd3 xd4 xd5 xd6 xd7) 31)).alloc ob1).alloc ob2).alloc ob3).alloc ob4).alloc ob5).alloc ob6).drew.cell? ⟨w2.heap.size, 6, none⟩ = some (.int .u8 xb6) := by rw [cell_of_row _ _ 6 _ _ _ Hxb.out]; rfl
        have fxb7 : (((((((w4.alloc (.cells (ar8 xd0 xd1 xd2 xd3 xd4 xd5 xd6 xd7) 31)).alloc ob1).alloc ob2).alloc ob3).alloc ob4).alloc ob5).alloc ob6).drew.cell? ⟨w2.heap.size, 7, none⟩ = some (.int .u8 xb7) := by rw [cell_of_row _ _ 7 _ _ _ Hxb.out]; rfl
        have hI2 := I2.out oc od
        have fxc0 : (((((((w4.alloc (.cells (ar8 xd0 xd1 xd2 xd3 xd4 xd5 xd6 xd7) 31)).alloc ob1).alloc ob2).alloc ob3).alloc ob4).alloc ob5).alloc ob6).drew.cell? ⟨w3.heap.size, 0, none⟩ = some (.int .u8 xc0) := by rw [cell_of_row _ _ 0 _ _ _ Hxc.out]; rfl
        have fxc1 : (((((((w4.alloc (.cells (ar8 xd0 xd1 xd2 xd3 xd4 xd5 xd6 xd7) 31)).alloc ob1).alloc ob2).alloc ob3).alloc ob4).alloc ob5).alloc ob6).drew.cell? ⟨w3.heap.size, 1, none⟩ = some (.int .u8 xc1) := by rw [cell_of_row _ _ 1 _ _ _ Hxc.out]; rfl
        have fxc2 : (((((((w4.alloc (.cells (ar8 xd0 xd1 xd2 xd3 xd4 xd5 xd6 xd7) 31)).alloc ob1).alloc ob2).alloc ob3).alloc ob4).alloc ob5).alloc ob6).drew.cell? ⟨w3.heap.size, 2, none⟩ = some (.int .u8 xc2) := by rw [cell_of_row _ _ 2 _ _ _ Hxc.out]; rfl
        have fxc3 : (((((((w4.alloc (.cells (ar8 xd0 xd1 xd2 xd3 xd4 xd5 xd6 xd7) 31)).alloc ob1).alloc ob2).alloc ob3).alloc ob4).alloc ob5).alloc ob6).drew.cell? ⟨w3.heap.size, 3, none⟩ = some (.int .u8 xc3) := by rw [cell_of_row _ _ 3 _ _ _ Hxc.out]; rfl
        have fxc4 : (((((((w4.alloc (.cells (ar8 xd0 xd1 xd2 xd3 xd4 xd5 xd6 xd7) 31)).alloc ob1).alloc ob2).alloc ob3).alloc ob4).alloc ob5).alloc ob6).drew.cell? ⟨w3.heap.size, 4, none⟩ = some (.int .u8 xc4) := by rw [cell_of_row _ _ 4 _ _ _ Hxc.out]; rfl
        have fxc5 : (((((((w4.alloc (.cells (ar8 xd0 xd1 xd2 xd3 xd4 xd5 xd6 xd7) 31)).alloc ob1).alloc ob2).alloc ob3).alloc ob4).alloc ob5).alloc ob6).drew.cell? ⟨w3.heap.size, 5, none⟩ = some (.int .u8 xc5) := by rw [cell_of_row _ _ 5 _ _ _ Hxc.out]; rfl
        have fxc6 : (((((((w4.alloc (.cells (ar8 xd0 xd1 xd2 xd3 xd4 xd5 xd6 xd7) 31)).alloc ob1).alloc ob2).alloc ob3).alloc ob4).alloc ob5).alloc ob6).drew.cell? ⟨w3.heap.size, 6, none⟩ = some (.int .u8 xc6) := by rw [cell_of_row _ _ 6 _ _ _ Hxc.out]; rfl
        have fxc7 : (((((((w4.alloc (.cells (ar8 xd0 xd1 xd2 xd3 xd4 xd5 xd6 xd7) 31)).alloc ob1).alloc ob2).alloc ob3).alloc ob4).alloc ob5).alloc ob6).drew.cell? ⟨w3.heap.size, 7, none⟩ = some (.int .u8 xc7) := by rw [cell_of_row _ _ 7 _ _ _ Hxc.out]; rfl
        have fxd0 : (((((((w4.alloc (.cells (ar8 xd0 xd1 xd2 xd3 xd4 xd5 xd6 xd7) 31)).alloc ob1).alloc ob2).alloc ob3).alloc ob4).alloc ob5).alloc ob6).drew.cell? ⟨w4.heap.size, 0, none⟩ = some (.int .u8 xd0) := by rw [cell_of_row _ _ 0 _ _ _ Hxd.out]; rfl
        have fxd1 : (((((((w4.alloc (.cells (ar8 xd0 xd1 xd2 xd3 xd4 xd5 xd6 xd7) 31)).alloc ob1).alloc ob2).alloc ob3).alloc ob4).alloc ob5).alloc ob6).drew.cell? ⟨w4.heap.size, 1, none⟩ = some (.int .u8 xd1) := by rw [cell_of_row _ _ 1 _ _ _ Hxd.out]; rfl
        have fxd2 : (((((((w4.alloc (.cells (ar8 xd0 xd1 xd2 xd3 xd4 xd5 xd6 xd7) 31)).alloc ob1).alloc ob2).alloc ob3).alloc ob4).alloc ob5).alloc ob6).drew.cell? ⟨w4.heap.size, 2, none⟩ = some (.int .u8 xd2) := by rw [cell_of_row _ _ 2 _ _ _ Hxd.out]; rfl
        have fxd3 : (((((((w4.alloc (.cells (ar8 xd0 xd1 xd2 xd3 xd4 xd5 xd6 xd7) 31)).alloc ob1).alloc ob2).alloc ob3).alloc ob4).alloc ob5).alloc ob6).drew.cell? ⟨w4.heap.size, 3, none⟩ = some (.int .u8 xd3) := by rw [cell_of_row _ _ 3 _ _ _ Hxd.out]; rfl
        have fxd4 : (((((((w4.alloc (.cells (ar8 xd0 xd1 xd2 xd3 xd4 xd5 xd6 xd7) 31)).alloc ob1).alloc ob2).alloc ob3).alloc ob4).alloc ob5).alloc ob6).drew.cell? ⟨w4.heap.size, 4, none⟩ = some (.int .u8 xd4) := by rw [cell_of_row _ _ 4 _ _ _ Hxd.out]; rfl
        have fxd5 : (((((((w4.alloc (.cells (ar8 xd0 xd1 xd2 xd3 xd4 xd5 xd6 xd7) 31)).alloc ob1).alloc ob2).alloc ob3).alloc ob4).alloc ob5).alloc ob6).drew.cell? ⟨w4.heap.size, 5, none⟩ = some (.int .u8 xd5) := by rw [cell_of_row _ _ 5 _ _ _ Hxd.out]; rfl
        have fxd6 : (((((((w4.alloc (.cells (ar8 xd0 xd1 xd2 xd3 xd4 xd5 xd6 xd7) 31)).alloc ob1).alloc ob2).alloc ob3).alloc ob4).alloc ob5).alloc ob6).drew.cell? ⟨w4.heap.size, 6, none⟩ = some (.int .u8 xd6) := by rw [cell_of_row _ _ 6 _ _ _ Hxd.out]; rfl
        have fxd7 : (((((((w4.alloc (.cells (ar8 xd0 xd1 xd2 xd3 xd4 xd5 xd6 xd7) 31)).alloc ob1).alloc ob2).alloc ob3).alloc ob4).alloc ob5).alloc ob6).drew.cell? ⟨w4.heap.size, 7, none⟩ = some (.int .u8 xd7) := by rw [cell_of_row _ _ 7 _ _ _ Hxd.out]; rfl
        go_wp2_with fail
        go_meet
        exact ⟨rfl, ZB, ZGC, ZGY, ZGxa, ZGxc⟩
    · as_aux_lemma =>
        have hI1 := I1.out oa ob
        have fxa0 : (((((((w4.alloc (.cells (ar8 xd0 xd1 xd2 xd3 xd4 xd5 xd6 xd7) 31)).alloc ob1).alloc ob2).alloc ob3).alloc ob4).alloc ob5).alloc ob6).drew.cell? ⟨w1.heap.size, 0, none⟩ = some (.int .u8 xa0) := by rw [cell_of_row _ _ 0 _ _ _ Hxa.out]; rfl
        have fxa1 : (((((((w4.alloc (.cells (ar8 xd0 xd1 xd2 xd3 xd4 xd5 xd6 xd7) 31)).alloc ob1).alloc ob2).alloc ob3).alloc ob4).alloc ob5).alloc ob6).drew.cell? ⟨w1.heap.size, 1, none⟩ = some (.int .u8 xa1) := by rw [cell_of_row _ _ 1 _ _ _ Hxa.out]; rfl
        have fxa2 : (((((((w4.alloc (.cells (ar8 xd0 xd1 xd2 xd3 xd4 xd5 xd6 xd7) 31)).alloc ob1).alloc ob2).alloc ob3).alloc ob4).alloc ob5).alloc ob6).drew.cell? ⟨w1.heap.size, 2, none⟩ = some (.int .u8 xa2) := by rw [cell_of_row _ _ 2 _ _ _ Hxa.out]; rfl
        have fxa3 : (((((((w4.alloc (.cells (ar8 xd0 xd1 xd2 xd3 xd4 xd5 xd6 xd7) 31)).alloc ob1).alloc ob2).alloc ob3).alloc ob4).alloc ob5).alloc ob6).drew.cell? ⟨w1.heap.size, 3, none⟩ = some (.int .u8 xa3) := by rw [cell_of_row _ _ 3 _ _ _ Hxa.out]; rfl
        have fxa4 : (((((((w4.alloc (.cells (ar8 xd0 xd1 xd2 xd3 xd4 xd5 xd6 xd7) 31)).alloc ob1).alloc ob2).alloc ob3).alloc ob4).alloc ob5).alloc ob6).drew.cell? ⟨w1.heap.size, 4, none⟩ = some (.int .u8 xa4) := by rw [cell_of_row _ _ 4 _ _ _ Hxa.out]; rfl
        have fxa5 : (((((((w4.alloc (.cells (ar8 xd0 xd1 xd2 xd3 xd4 xd5 xd6 xd7) 31)).alloc ob1).alloc ob2).alloc ob3).alloc ob4).alloc ob5).alloc ob6).drew.cell? ⟨w1.heap.size, 5, none⟩ = some (.int .u8 xa5) := by rw [cell_of_row _ _ 5 _ _ _ Hxa.out]; rfl
        have fxa6 : (((((((w4.alloc (.cells (ar8 xd0 xd1 xd2 xd3 xd4 xd5 xd6 xd7) 31)).alloc ob1).alloc ob2).alloc ob3).alloc ob4).alloc ob5).alloc ob6).drew.cell? ⟨w1.heap.size, 6, none⟩ = some (.int .u8 xa6) := by rw [cell_of_row _ _ 6 _ _ _ Hxa.out]; rfl
        have fxa7 : (((((((w4.alloc (.cells (ar8 xd0 xd1 xd2 xd3 xd4 xd5 xd6 xd7) 31)).alloc ob1).alloc ob2).alloc ob3).alloc ob4).alloc ob5).alloc ob6).drew.cell? ⟨w1.heap.size, 7, none⟩ = some (.int .u8 xa7) := by rw [cell_of_row _ _ 7 _ _ _ Hxa.out]; rfl
        have fxb0 : (((((((w4.alloc (.cells (ar8 xd0 xd1 xd2 xd3 xd4 xd5 xd6 xd7) 31)).alloc ob1).alloc ob2).alloc ob3).alloc ob4).alloc ob5).alloc ob6).drew.cell? ⟨w2.heap.size, 0, none⟩ = some (.int .u8 xb0) := by rw [cell_of_row _ _ 0 _ _ _ Hxb.out]; rfl
        have fxb1 : (((((((w4.alloc (.cells (ar8 xd0 xd1 xd2 xd3 xd4 xd5 xd6 xd7) 31)).alloc ob1).alloc ob2).alloc ob3).alloc ob4).alloc ob5).alloc ob6).drew.cell? ⟨w2.heap.size, 1, none⟩ = some (.int .u8 xb1) := by rw [cell_of_row _ _ 1 _ _ _ Hxb.out]; rfl
        have fxb2 : (((((((w4.alloc (.cells (ar8 xd0 xd1 xd2 xd3 xd4 xd5 xd6 xd7) 31)).alloc ob1).alloc ob2).alloc ob3).alloc ob4).alloc ob5).alloc ob6).drew.cell? ⟨w2.heap.size, 2, none⟩ = some (.int .u8 xb2) := by rw [cell_of_row _ _ 2 _ _ _ Hxb.out]; rfl
        have fxb3 : (((((((w4.alloc (.cells (ar8 xd0 xd1 xd2 xd3 xd4 xd5 xd6 xd7) 31)).alloc ob1).alloc ob2).alloc ob3).alloc ob4).alloc ob5).alloc ob6).drew.cell? ⟨w2.heap.size, 3, none⟩ = some (.int .u8 xb3) := by rw [cell_of_row _ _ 3 _ _ _ Hxb.out]; rfl
        have fxb4 : (((((((w4.alloc (.cells (ar8 xd0 xd1 xd2 xd3 xd4 xd5 xd6 xd7) 31)).alloc ob1).alloc ob2).alloc ob3).alloc ob4).alloc ob5).alloc ob6).drew.cell? ⟨w2.heap.size, 4, none⟩ = some (.int .u8 xb4) := by rw [cell_of_row _ _ 4 _ _ _ Hxb.out]; rfl
        have fxb5 : (((((((w4.alloc (.cells (ar8 xd0 xd1 xd2 xd3 xd4 xd5 xd6 xd7) 31)).alloc ob1).alloc ob2).alloc ob3).alloc ob4).alloc ob5).alloc ob6).drew.cell? ⟨w2.heap.size, 5, none⟩ = some (.int .u8 xb5) := by rw [cell_of_row _ _ 5 _ _ _ Hxb.out]; rfl
        have fxb6 : (((((((w4.alloc (.cells (ar8 xd0 xd1 xd2 xd3 xd4 xd5 xd6 xd7) 31)).alloc ob1).alloc ob2).alloc ob3).alloc ob4).alloc ob5).alloc ob6).drew.cell? ⟨w2.heap.size, 6, none⟩ = some (.int .u8 xb6) := by rw [cell_of_row _ _ 6 _ _ _ Hxb.out]; rfl
        have fxb7 : (((((((w4.alloc (.cells (ar8 xd0 xd1 xd2 xd3 xd4 xd5 xd6 xd7) 31)).alloc ob1).alloc ob2).alloc ob3).alloc ob4).alloc ob5).alloc ob6).drew.cell? ⟨w2.heap.size, 7, none⟩ = some (.int .u8 xb7) := by rw [cell_of_row _ _ 7 _ _ _ Hxb.out]; rfl
        go_wp2_with fail
        go_meet
        exact ⟨rfl, ZB, ZGC, ZGY, ZGxa, ZGxc⟩
    · as_aux_lemma =>
        have hI1 := I1.out oa ob
        have fxa0 : (((((((w4.alloc (.cells (ar8 xd0 xd1 xd2 xd3 xd4 xd5 xd6 xd7) 31)).alloc ob1).alloc ob2).alloc ob3).alloc ob4).alloc ob5).alloc ob6).drew.cell? ⟨w1.heap.size, 0, none⟩ = some (.int .u8 xa0) := by rw [cell_of_row _ _ 0 _ _ _ Hxa.out]; rfl
        have fxa1 : (((((((w4.alloc (.cells (ar8 xd0 xd1 xd2 xd3 xd4 xd5 xd6 xd7) 31)).alloc ob1).alloc ob2).alloc ob3).alloc ob4).alloc ob5).alloc ob6).drew.cell? ⟨w1.heap.size, 1, none⟩ = some (.int .u8 xa1) := by rw [cell_of_row _ _ 1 _ _ _ Hxa.out]; rfl
        have fxa2 : (((((((w4.alloc (.cells (ar8 xd0 xd1 xd2 xd3 xd4 xd5 xd6 xd7) 31)).alloc ob1).alloc ob2).alloc ob3).alloc ob4).alloc ob5).alloc ob6).drew.cell? ⟨w1.heap.size, 2, none⟩ = some (.int .u8 xa2) := by rw [cell_of_row _ _ 2 _ _ _ Hxa.out]; rfl
        have fxa3 : (((((((w4.alloc (.cells (ar8 xd0 xd1 xd2 xd3 xd4 xd5 xd6 xd7) 31)).alloc ob1).alloc ob2).alloc ob3).alloc ob4).alloc ob5).alloc ob6).drew.cell? ⟨w1.heap.size, 3, none⟩ = some (.int .u8 xa3) := by rw [cell_of_row _ _ 3 _ _ _ Hxa.out]; rfl
        have fxa4 : (((((((w4.alloc (.cells (ar8 xd0 xd1 xd2 xd3 xd4 xd5 xd6 xd7) 31)).alloc ob1).alloc ob2).alloc ob3).alloc ob4).alloc ob5).alloc ob6).drew.cell? ⟨w1.heap.size, 4, none⟩ = some (.int .u8 xa4) := by rw [cell_of_row _ _ 4 _ _ _ Hxa.out]; rfl
        have fxa5 : (((((((w4.alloc (.cells (ar8 xd0 xd1 xd2 xd3 xd4 xd5 xd6 xd7) 31)).alloc ob1).alloc ob2).alloc ob3).alloc ob4).alloc ob5).alloc ob6).drew.cell? ⟨w1.heap.size, 5, none⟩ = some (.int .u8 xa5) := by rw [cell_of_row _ _ 5 _ _ _ Hxa.out]; rfl
        have fxa6 : (((((((w4.alloc (.cells (ar8 xd0 xd1 xd2 xd3 xd4 xd5 xd6 xd7) 31)).alloc ob1).alloc ob2).alloc ob3).alloc ob4).alloc ob5).alloc ob6).drew.cell? ⟨w1.heap.size, 6, none⟩ = some (.int .u8 xa6) := by rw [cell_of_row _ _ 6 _ _ _ Hxa.out]; rfl
        have fxa7 : (((((((w4.alloc (.cells (ar8 xd0 xd1 xd2 xd3 xd4 xd5 xd6 xd7) 31)).alloc ob1).alloc ob2).alloc ob3).alloc ob4).alloc ob5).alloc ob6).drew.cell? ⟨w1.heap.size, 7, none⟩ = some (.int .u8 xa7) := by rw [cell_of_row _ _ 7 _ _ _ Hxa.out]; rfl
        have fxb0 : (((((((w4.alloc (.cells (ar8 xd0 xd1 xd2 xd3 xd4 xd5 xd6 xd7) 31)).alloc ob1).alloc ob2).alloc ob3).alloc ob4).alloc ob5).alloc ob6).drew.cell? ⟨w2.heap.size, 0, none⟩ = some (.int .u8 xb0) := by rw [cell_of_row _ _ 0 _ _ _ Hxb.out]; rfl
        have fxb1 : (((((((w4.alloc (.cells (ar8 xd0 xd1 xd2 xd3 xd4 xd5 xd6 xd7) 31)).alloc ob1).alloc ob2).alloc ob3).alloc ob4).alloc ob5).alloc ob6).drew.cell? ⟨w2.heap.size, 1, none⟩ = some (.int .u8 xb1) := by rw [cell_of_row _ _ 1 _ _ _ Hxb.out]; rfl
        have fxb2 : (((((((w4.alloc (.cells (ar8 xd0 xd1 xd2 xd3 xd4 xd5 xd6 xd7) 31)).alloc ob1).alloc ob2).alloc ob3).alloc ob4).alloc ob5).alloc ob6).drew.cell? ⟨w2.heap.size, 2, none⟩ = some (.int .u8 xb2) := by rw [cell_of_row _ _ 2 _ _ _ Hxb.out]; rfl
        have fxb3 : (((((((w4.alloc (.cells (ar8 xd0 xd1 xd2 xd3 xd4 xd5 xd6 xd7) 31)).alloc ob1).alloc ob2).alloc ob3).alloc ob4).alloc ob5).alloc ob6).drew.cell? ⟨w2.heap.size, 3, none⟩ = some (.int .u8 xb3) := by rw [cell_of_row _ _ 3 _ _ _ Hxb.out]; rfl
        have fxb4 : (((((((w4.alloc (.cells (ar8 xd0 xd1 xd2 xd3 xd4 xd5 xd6 xd7) 31)).alloc ob1).alloc ob2).alloc ob3).alloc ob4).alloc ob5).alloc ob6).drew.cell? ⟨w2.heap.size, 4, none⟩ = some (.int .u8 xb4) := by rw [cell_of_row _ _ 4 _ _ _ Hxb.out]; rfl
        have fxb5 : (((((((w4.alloc (.cells (ar8 xd0 xd1 xd2 xd3 xd4 xd5 xd6 xd7) 31)).alloc ob1).alloc ob2).alloc ob3).alloc ob4).alloc ob5).alloc ob6).drew.cell? ⟨w2.heap.size, 5, none⟩ = some (.int .u8 xb5) := by rw [cell_of_row _ _ 5 _ _ _ Hxb.out]; rfl
        have fxb6 : (((((((w4.alloc (.cells (ar8 xd0 xd1 xd2 xd3 xd4 xd5 xd6 xd7) 31)).alloc ob1).alloc ob2).alloc ob3).alloc ob4).alloc ob5).alloc ob6).drew.cell? ⟨w2.heap.size, 6, none⟩ = some (.int .u8 xb6) := by rw [cell_of_row _ _ 6 _ _ _ Hxb.out]; rfl
        have fxb7 : (((((((w4.alloc (.cells (ar8 xd0 xd1 xd2 xd3 xd4 xd5 xd6 xd7) 31)).alloc ob1).alloc ob2).alloc ob3).alloc ob4).alloc ob5).alloc ob6).drew.cell? ⟨w2.heap.size, 7, none⟩ = some (.int .u8 xb7) := by rw [cell_of_row _ _ 7 _ _ _ Hxb.out]; rfl
        go_wp2_with fail
        go_meet
        exact ⟨rfl, ZB, ZGC, ZGY, ZGxa, ZGxc⟩
    · as_aux_lemma =>
        have hI1 := I1.out oa ob
        have fxa0 : (((((((w4.alloc (.cells (ar8 xd0 xd1 xd2 xd3 xd4 xd5 xd6 xd7) 31)).alloc ob1).alloc ob2).alloc ob3).alloc ob4).alloc ob5).alloc ob6).drew.cell? ⟨w1.heap.size, 0, none⟩ = some (.int .u8 xa0) := by rw [cell_of_row _ _ 0 _ _ _ Hxa.out]; rfl
        have fxa1 : (((((((w4.alloc (.cells (ar8 xd0 xd1 xd2 xd3 xd4 xd5 xd6 xd7) 31)).alloc ob1).alloc ob2).alloc ob3).alloc ob4).alloc ob5).alloc ob6).drew.cell? ⟨w1.heap.size, 1, none⟩ = some (.int .u8 xa1) := by rw [cell_of_row _ _ 1 _ _ _ Hxa.out]; rfl
        have fxa2 : (((((((w4.alloc (.cells (ar8 xd0 xd1 xd2 xd3 xd4 xd5 xd6 xd7) 31)).alloc ob1).alloc ob2).alloc ob3).alloc ob4).alloc ob5).alloc ob6).drew.cell? ⟨w1.heap.size, 2, none⟩ = some (.int .u8 xa2) := by rw [cell_of_row _ _ 2 _ _ _ Hxa.out]; rfl
        have fxa3 : (((((((w4.alloc (.cells (ar8 xd0 xd1 xd2 xd3 xd4 xd5 xd6 xd7) 31)).alloc ob1).alloc ob2).alloc ob3).alloc ob4).alloc ob5).alloc ob6).drew.cell? ⟨w1.heap.size, 3, none⟩ = some (.int .u8 xa3) := by rw [cell_of_row _ _ 3 _ _ _ Hxa.out]; rfl
        have fxa4 : (((((((w4.alloc (.cells (ar8 xd0 xd1 xd2 xd3 xd4 xd5 xd6 xd7) 31)).alloc ob1).alloc ob2).alloc ob3).alloc ob4).alloc ob5).alloc ob6).drew.cell? ⟨w1.heap.size, 4, none⟩ = some (.int .u8 xa4) := by rw [cell_of_row _ _ 4 _ _ _ Hxa.out]; rfl
        have fxa5 : (((((((w4.alloc (.cells (ar8 xd0 xd1 xd2 xd3 xd4 xd5 xd6 xd7) 31)).alloc ob1).alloc ob2).alloc ob3).alloc ob4).alloc ob5).alloc ob6).drew.cell? ⟨w1.heap.size, 5, none⟩ = some (.int .u8 xa5) := by rw [cell_of_row _ _ 5 _ _ _ Hxa.out]; rfl
        have fxa6 : (((((((w4.alloc (.cells (ar8 xd0 xd1 xd2 xd3 xd4 xd5 xd6 xd7) 31)).alloc ob1).alloc ob2).alloc ob3).alloc ob4).alloc ob5).alloc ob6).drew.cell? ⟨w1.heap.size, 6, none⟩ = some (.int .u8 xa6) := by rw [cell_of_row _ _ 6 _ _ _ Hxa.out]; rfl
        have fxa7 : (((((((w4.alloc (.cells (ar8 xd0 xd1 xd2 xd3 xd4 xd5 xd6 xd7) 31)).alloc ob1).alloc ob2).alloc ob3).alloc ob4).alloc ob5).alloc ob6).drew.cell? ⟨w1.heap.size, 7, none⟩ = some (.int .u8 xa7) := by rw [cell_of_row _ _ 7 _ _ _ Hxa.out]; rfl
        have fxb0 : (((((((w4.alloc (.cells (ar8 xd0 xd1 xd2 xd3 xd4 xd5 xd6 xd7) 31)).alloc ob1).alloc ob2).alloc ob3).alloc ob4).alloc ob5).alloc ob6).drew.cell? ⟨w2.heap.size, 0, none⟩ = some (.int .u8 xb0) := by rw [cell_of_row _ _ 0 _ _ _ Hxb.out]; rfl
        have fxb1 : (((((((w4.alloc (.cells (ar8 xd0 xd1 xd2 xd3 xd4 xd5 xd6 xd7) 31)).alloc ob1).alloc ob2).alloc ob3).alloc ob4).alloc ob5).alloc ob6).drew.cell? ⟨w2.heap.size, 1, none⟩ = some (.int .u8 xb1) := by rw [cell_of_row _ _ 1 _ _ _ Hxb.out]; rfl
        have fxb2 : (((((((w4.alloc (.cells (ar8 xd0 xd1 xd2 xd3 xd4 xd5 xd6 xd7) 31)).alloc ob1).alloc ob2).alloc ob3).alloc ob4).alloc ob5).alloc ob6).drew.cell? ⟨w2.heap.size, 2, none⟩ = some (.int .u8 xb2) := by rw [cell_of_row _ _ 2 _ _ _ Hxb.out]; rfl
        have fxb3 : (((((((w4.alloc (.cells (ar8 xd0 xd1 xd2 xd3 xd4 xd5 xd6 xd7) 31)).alloc ob1).alloc ob2).alloc ob3).alloc ob4).alloc ob5).alloc ob6).drew.cell? ⟨w2.heap.size, 3, none⟩ = some (.int .u8 xb3) := by rw [cell_of_row _ _ 3 _ _ _ Hxb.out]; rfl
        have fxb4 : (((((((w4.alloc (.cells (ar8 xd0 xd1 xd2 xd3 xd4 xd5 xd6 xd7) 31)).alloc ob1).alloc ob2).alloc ob3).alloc ob4).alloc ob5).alloc ob6).drew.cell? ⟨w2.heap.size, 4, none⟩ = some (.int .u8 xb4) := by rw [cell_of_row _ _ 4 _ _ _ Hxb.out]; rfl
        have fxb5 : (((((((w4.alloc (.cells (ar8 xd0 xd1 xd2 xd3 xd4 xd5 xd6 xd7) 31)).alloc ob1).alloc ob2).alloc ob3).alloc ob4).alloc ob5).alloc ob6).drew.cell? ⟨w2.heap.size, 5, none⟩ = some (.int .u8 xb5) := by rw [cell_of_row _ _ 5 _ _ _ Hxb.out]; rfl
        have fxb6 : (((((((w4.alloc (.cells (ar8 xd0 xd1 xd2 xd3 xd4 xd5 xd6 xd7) 31)).alloc ob1).alloc ob2).alloc ob3).alloc ob4).alloc ob5).alloc ob6).drew.cell? ⟨w2.heap.size, 6, none⟩ = some (.int .u8 xb6) := by rw [cell_of_row _ _ 6 _ _ _ Hxb.out]; rfl
        have fxb7 : (((((((w4.alloc (.cells (ar8 xd0 xd1 xd2 xd3 xd4 xd5 xd6 xd7) 31)).alloc ob1).alloc ob2).alloc ob3).alloc ob4).alloc ob5).alloc ob6).drew.cell? ⟨w2.heap.size, 7, none⟩ = some (.int .u8 xb7) := by rw [cell_of_row _ _ 7 _ _ _ Hxb.out]; rfl
        go_wp2_with fail
        go_meet
        exact ⟨rfl, ZB, ZGC, ZGY, ZGxa, ZGxc⟩
    · as_aux_lemma =>
        have hI2 := I2.out oc od
        have fxc0 : (((((((w4.alloc (.cells (ar8 xd0 xd1 xd2 xd3 xd4 xd5 xd6 xd7) 31)).alloc ob1).alloc ob2).alloc ob3).alloc ob4).alloc ob5).alloc ob6).drew.cell? ⟨w3.heap.size, 0, none⟩ = some (.int .u8 xc0) := by rw [cell_of_row _ _ 0 _ _ _ Hxc.out]; rfl
        have fxc1 : (((((((w4.alloc (.cells (ar8 xd0 xd1 xd2 xd3 xd4 xd5 xd6 xd7) 31)).alloc ob1).alloc ob2).alloc ob3).alloc ob4).alloc ob5).alloc ob6).drew.cell? ⟨w3.heap.size, 1, none⟩ = some (.int .u8 xc1) := by rw [cell_of_row _ _ 1 _ _ _ Hxc.out]; rfl
        have fxc2 : (((((((w4.alloc (.cells (ar8 xd0 xd1 xd2 xd3 xd4 xd5 xd6 xd7) 31)).alloc ob1).alloc ob2).alloc ob3).alloc ob4).alloc ob5).alloc ob6).drew.cell? ⟨w3.heap.size, 2, none⟩ = some (.int .u8 xc2) := by rw [cell_of_row _ _ 2 _ _ _ Hxc.out]; rfl
        have fxc3 : (((((((w4.alloc (.cells (ar8 xd0 xd1 xd2 xd3 xd4 xd5 xd6 xd7) 31)).alloc ob1).alloc ob2).alloc ob3).alloc ob4).alloc ob5).alloc ob6).drew.cell? ⟨w3.heap.size, 3, none⟩ = some (.int .u8 xc3) := by rw [cell_of_row _ _ 3 _ _ _ Hxc.out]; rfl
        have fxc4 : (((((((w4.alloc (.cells (ar8 xd0 xd1 xd2 xd3 xd4 xd5 xd6 xd7) 31)).alloc ob1).alloc ob2).alloc ob3).alloc ob4).alloc ob5).alloc ob6).drew.cell? ⟨w3.heap.size, 4, none⟩ = some (.int .u8 xc4) := by rw [cell_of_row _ _ 4 _ _ _ Hxc.out]; rfl
        have fxc5 : (((((((w4.alloc (.cells (ar8 xd0 xd1 xd2 xd3 xd4 xd5 xd6 xd7) 31)).alloc ob1).alloc ob2).alloc ob3).alloc ob4).alloc ob5).alloc ob6).drew.cell? ⟨w3.heap.size, 5, none⟩ = some (.int .u8 xc5) := by rw [cell_of_row _ _ 5 _ _ _ Hxc.out]; rfl
        have fxc6 : (((((((w4.alloc (.cells (ar8 xd0 xd1 xd2 xd3 xd4 xd5 xd6 xd7) 31)).alloc ob1).alloc ob2).alloc ob3).alloc ob4).alloc ob5).alloc ob6).drew.cell? ⟨w3.heap.size, 6, none⟩ = some (.int .u8 xc6) := by rw [cell_of_row _ _ 6 _ _ _ Hxc.out]; rfl
        have fxc7 : (((((((w4.alloc (.cells (ar8 xd0 xd1 xd2 xd3 xd4 xd5 xd6 xd7) 31)).alloc ob1).alloc ob2).alloc ob3).alloc ob4).alloc ob5).alloc ob6).drew.cell? ⟨w3.heap.size, 7, none⟩ = some (.int .u8 xc7) := by rw [cell_of_row _ _ 7 _ _ _ Hxc.out]; rfl
        have fxd0 : (((((((w4.alloc (.cells (ar8 xd0 xd1 xd2 xd3 xd4 xd5 xd6 xd7) 31)).alloc ob1).alloc ob2).alloc ob3).alloc ob4).alloc ob5).alloc ob6).drew.cell? ⟨w4.heap.size, 0, none⟩ = some (.int .u8 xd0) := by rw [cell_of_row _ _ 0 _ _ _ Hxd.out]; rfl
        have fxd1 : (((((((w4.alloc (.cells (ar8 xd0 xd1 xd2 xd3 xd4 xd5 xd6 xd7) 31)).alloc ob1).alloc ob2).alloc ob3).alloc ob4).alloc ob5).alloc ob6).drew.cell? ⟨w4.heap.size, 1, none⟩ = some (.int .u8 xd1) := by rw [cell_of_row _ _ 1 _ _ _ Hxd.out]; rfl
        have fxd2 : (((((((w4.alloc (.cells (ar8 xd0 xd1 xd2 xd3 xd4 xd5 xd6 xd7) 31)).alloc ob1).alloc ob2).alloc ob3).alloc ob4).alloc ob5).alloc ob6).drew.cell? ⟨w4.heap.size, 2, none⟩ = some (.int .u8 xd2) := by rw [cell_of_row _ _ 2 _ _ _ Hxd.out]; rfl
        have fxd3 : (((((((w4.alloc (.cells (ar8 xd0 xd1 xd2 xd3 xd4 xd5 xd6 xd7) 31)).alloc ob1).alloc ob2).alloc ob3).alloc ob4).alloc ob5).alloc ob6).drew.cell? ⟨w4.heap.size, 3, none⟩ = some (.int .u8 xd3) := by rw [cell_of_row _ _ 3 _ _ _ Hxd.out]; rfl
        have fxd4 : (((((((w4.alloc (.cells (ar8 xd0 xd1 xd2 xd3 xd4 xd5 xd6 xd7) 31)).alloc ob1).alloc ob2).alloc ob3).alloc ob4).alloc ob5).alloc ob6).drew.cell? ⟨w4.heap.size, 4, none⟩ = some (.int .u8 xd4) := by rw [cell_of_row _ _ 4 _ _ _ Hxd.out]; rfl
        have fxd5 : (((((((w4.alloc (.cells (ar8 xd0 xd1 xd2 xd3 xd4 xd5 xd6 xd7) 31)).alloc ob1).alloc ob2).alloc ob3).alloc ob4).alloc ob5).alloc ob6).drew.cell? ⟨w4.heap.size, 5, none⟩ = some (.int .u8 xd5) := by rw [cell_of_row _ _ 5 _ _ _ Hxd.out]; rfl
        have fxd6 : (((((((w4.alloc (.cells (ar8 xd0 xd1 xd2 xd3 xd4 xd5 xd6 xd7) 31)).alloc ob1).alloc ob2).alloc ob3).alloc ob4).alloc ob5).alloc ob6).drew.cell? ⟨w4.heap.size, 6, none⟩ = some (.int .u8 xd6) := by rw [cell_of_row _ _ 6 _ _ _ Hxd.out]; rfl
        have fxd7 : (((((((w4.alloc (.cells (ar8 xd0 xd1 xd2 xd3 xd4 xd5 xd6 xd7) 31)).alloc ob1).alloc ob2).alloc ob3).alloc ob4).alloc ob5).alloc ob6).drew.cell? ⟨w4.heap.size, 7, none⟩ = some (.int .u8 xd7) := by rw [cell_of_row _ _ 7 _ _ _ Hxd.out]; rfl
        go_wp2_with fail
        go_meet
        exact ⟨rfl, ZB, ZGC, ZGY, ZGxa, ZGxc⟩
    · as_aux_lemma =>
        go_wp2_with fail
        go_meet
        exact ⟨rfl, ZB, ZGC, ZGY, ZGxa, ZGxc⟩
    · as_aux_lemma =>
        go_wp2_with fail
        go_meet
        exact ⟨rfl, ZB, ZGC, ZGY, ZGxa, ZGxc⟩
    · as_aux_lemma =>
        go_wp2_with fail
        go_meet
        exact ⟨rfl, ZB, ZGC, ZGY, ZGxa, ZGxc⟩
    · as_aux_lemma =>
        have hI2 := I2.out oc od
        have fxc0 : (((((((w4.alloc (.cells (ar8 xd0 xd1 xd2 xd3 xd4 xd5 xd6 xd7) 31)).alloc ob1).alloc ob2).alloc ob3).alloc ob4).alloc ob5).alloc ob6).drew.cell? ⟨w3.heap.size, 0, none⟩ = some (.int .u8 xc0) := by rw [cell_of_row _ _ 0 _ _ _ Hxc.out]; rfl
        have fxc1 : (((((((w4.alloc (.cells (ar8 xd0 xd1 xd2 xd3 xd4 xd5 xd6 xd7) 31)).alloc ob1).alloc ob2).alloc ob3).alloc ob4).alloc ob5).alloc ob6).drew.cell? ⟨w3.heap.size, 1, none⟩ = some (.int .u8 xc1) := by rw [cell_of_row _ _ 1 _ _ _ Hxc.out]; rfl
        have fxc2 : (((((((w4.alloc (.cells (ar8 xd0 xd1 xd2 xd3 xd4 xd5 xd6 xd7) 31)).alloc ob1).alloc ob2).alloc ob3).alloc ob4).alloc ob5).alloc ob6).drew.cell? ⟨w3.heap.size, 2, none⟩ = some (.int .u8 xc2) := by rw [cell_of_row _ _ 2 _ _ _ Hxc.out]; rfl
        have fxc3 : (((((((w4.alloc (.cells (ar8 xd0 xd1 xd2 xd3 xd4 xd5 xd6 xd7) 31)).alloc ob1).alloc ob2).alloc ob3).alloc ob4).alloc ob5).alloc ob6).drew.cell? ⟨w3.heap.size, 3, none⟩ = some (.int .u8 xc3) := by rw [cell_of_row _ _ 3 _ _ _ Hxc.out]; rfl
        have fxc4 : (((((((w4.alloc (.cells (ar8 xd0 xd1 xd2 xd3 xd4 xd5 xd6 xd7) 31)).alloc ob1).alloc ob2).alloc ob3).alloc ob4).alloc ob5).alloc ob6).drew.cell? ⟨w3.heap.size, 4, none⟩ = some (.int .u8 xc4) := by rw [cell_of_row _ _ 4 _ _ _ Hxc.out]; rfl
        have fxc5 : (((((((w4.alloc (.cells (ar8 xd0 xd1 xd2 xd3 xd4 xd5 xd6 xd7) 31)).alloc ob1).alloc ob2).alloc ob3).alloc ob4).alloc ob5).alloc ob6).drew.cell? ⟨w3.heap.size, 5, none⟩ = some (.int .u8 xc5) := by rw [cell_of_row _ _ 5 _ _ _ Hxc.out]; rfl
        have fxc6 : (((((((w4.alloc (.cells (ar8 xd0 xd1 xd2 xd3 xd4 xd5 xd6 xd7) 31)).alloc ob1).alloc ob2).alloc ob3).alloc ob4).alloc ob5).alloc ob6).drew.cell? ⟨w3.heap.size, 6, none⟩ = some (.int .u8 xc6) := by rw [cell_of_row _ _ 6 _ _ _ Hxc.out]; rfl
        have fxc7 : (((((((w4.alloc (.cells (ar8 xd0 xd1 xd2 xd3 xd4 xd5 xd6 xd7) 31)).alloc ob1).alloc ob2).alloc ob3).alloc ob4).alloc ob5).alloc ob6).drew.cell? ⟨w3.heap.size, 7, none⟩ = some (.int .u8 xc7) := by rw [cell_of_row _ _ 7 _ _ _ Hxc.out]; rfl
        have fxd0 : (((((((w4.alloc (.cells (ar8 xd0 xd1 xd2 xd3 xd4 xd5 xd6 xd7) 31)).alloc ob1).alloc ob2).alloc ob3).alloc ob4).alloc ob5).alloc ob6).drew.cell? ⟨w4.heap.size, 0, none⟩ = some (.int .u8 xd0) := by rw [cell_of_row _ _ 0 _ _ _ Hxd.out]; rfl
        have fxd1 : (((((((w4.alloc (.cells (ar8 xd0 xd1 xd2 xd3 xd4 xd5 xd6 xd7) 31)).alloc ob1).alloc ob2).alloc ob3).alloc ob4).alloc ob5).alloc ob6).drew.cell? ⟨w4.heap.size, 1, none⟩ = some (.int .u8 xd1) := by rw [cell_of_row _ _ 1 _ _ _ Hxd.out]; rfl
        have fxd2 : (((((((w4.alloc (.cells (ar8 xd0 xd1 xd2 xd3 xd4 xd5 xd6 xd7) 31)).alloc ob1).alloc ob2).alloc ob3).alloc ob4).alloc ob5).alloc ob6).drew.cell? ⟨w4.heap.size, 2, none⟩ = some (.int .u8 xd2) := by rw [cell_of_row _ _ 2 _ _ _ Hxd.out]; rfl
        have fxd3 : (((((((w4.alloc (.cells (ar8 xd0 xd1 xd2 xd3 xd4 xd5 xd6 xd7) 31)).alloc ob1).alloc ob2).alloc ob3).alloc ob4).alloc ob5).alloc ob6).drew.cell? ⟨w4.heap.size, 3, none⟩ = some (.int .u8 xd3) := by rw [cell_of_row _ _ 3 _ _ _ Hxd.out]; rfl
        have fxd4 : (((((((w4.alloc (.cells (ar8 xd0 xd1 xd2 xd3 xd4 xd5 xd6 xd7) 31)).alloc ob1).alloc ob2).alloc ob3).alloc ob4).alloc ob5).alloc ob6).drew.cell? ⟨w4.heap.size, 4, none⟩ = some (.int .u8 xd4) := by rw [cell_of_row _ _ 4 _ _ _ Hxd.out]; rfl
        have fxd5 : (((((((w4.alloc (.cells (ar8 xd0 xd1 xd2 xd3 xd4 xd5 xd6 xd7) 31)).alloc ob1).alloc ob2).alloc ob3).alloc ob4).alloc ob5).alloc ob6).drew.cell? ⟨w4.heap.size, 5, none⟩ = some (.int .u8 xd5) := by rw [cell_of_row _ _ 5 _ _ _ Hxd.out]; rfl
        have fxd6 : (((((((w4.alloc (.cells (ar8 xd0 xd1 xd2 xd3 xd4 xd5 xd6 xd7) 31)).alloc ob1).alloc ob2).alloc ob3).alloc ob4).alloc ob5).alloc ob6).drew.cell? ⟨w4.heap.size, 6, none⟩ = some (.int .u8 xd6) := by rw [cell_of_row _ _ 6 _ _ _ Hxd.out]; rfl
        have fxd7 : (((((((w4.alloc (.cells (ar8 xd0 xd1 xd2 xd3 xd4 xd5 xd6 xd7) 31)).alloc ob1).alloc ob2).alloc ob3).alloc ob4).alloc ob5).alloc ob6).drew.cell? ⟨w4.heap.size, 7, none⟩ = some (.int .u8 xd7) := by rw [cell_of_row _ _ 7 _ _ _ Hxd.out]; rfl
        go_wp2_with fail
        go_meet
        exact ⟨rfl, ZB, ZGC, ZGY, ZGxa, ZGxc⟩
    · as_aux_lemma =>
        go_wp2_with fail
        go_meet
        exact ⟨rfl, ZB, ZGC, ZGY, ZGxa, ZGxc⟩
    · as_aux_lemma =>
        go_wp2_with fail
        go_meet
        exact ⟨rfl, ZB, ZGC, ZGY, ZGxa, ZGxc⟩
    · as_aux_lemma =>
        go_wp2_with fail
        go_meet
        exact ⟨rfl, ZB, ZGC, ZGY, ZGxa, ZGxc⟩
    · as_aux_lemma =>
        have hI2 := I2.out oc od
        have fxc0 : (((((((w4.alloc (.cells (ar8 xd0 xd1 xd2 xd3 xd4 xd5 xd6 xd7) 31)).alloc ob1).alloc ob2).alloc ob3).alloc ob4).alloc ob5).alloc ob6).drew.cell? ⟨w3.heap.size, 0, none⟩ = some (.int .u8 xc0) := by rw [cell_of_row _ _ 0 _ _ _ Hxc.out]; rfl
        have fxc1 : (((((((w4.alloc (.cells (ar8 xd0 xd1 xd2 xd3 xd4 xd5 xd6 xd7) 31)).alloc ob1).alloc ob2).alloc ob3).alloc ob4).alloc ob5).alloc ob6).drew.cell? ⟨w3.heap.size, 1, none⟩ = some (.int .u8 xc1) := by rw [cell_of_row _ _ 1 _ _ _ Hxc.out]; rfl
        have fxc2 : (((((((w4.alloc (.cells (ar8 xd0 xd1 xd2 xd3 xd4 xd5 xd6 xd7) 31)).alloc ob1).alloc ob2).alloc ob3).alloc ob4).alloc ob5).alloc ob6).drew.cell? ⟨w3.heap.size, 2, none⟩ = some (.int .u8 xc2) := by rw [cell_of_row _ _ 2 _ _ _ Hxc.out]; rfl
        have fxc3 : (((((((w4.alloc (.cells (ar8 xd0 xd1 xd2 xd3 xd4 xd5 xd6 xd7) 31)).alloc ob1).alloc ob2).alloc ob3).alloc ob4).alloc ob5).alloc ob6).drew.cell? ⟨w3.heap.size, 3, none⟩ = some (.int .u8 xc3) := by rw [cell_of_row _ _ 3 _ _ _ Hxc.out]; rfl
        have fxc4 : (((((((w4.alloc (.cells (ar8 xd0 xd1 xd2 xd3 xd4 xd5 xd6 xd7) 31)).alloc ob1).alloc ob2).alloc ob3).alloc ob4).alloc ob5).alloc ob6).drew.cell? ⟨w3.heap.size, 4, none⟩ = some (.int .u8 xc4) := by rw [cell_of_row _ _ 4 _ _ _ Hxc.out]; rfl
        have fxc5 : (((((((w4.alloc (.cells (ar8 xd0 xd1 xd2 xd3 xd4 xd5 xd6 xd7) 31)).alloc ob1).alloc ob2).alloc ob3).alloc ob4).alloc ob5).alloc ob6).drew.cell? ⟨w3.heap.size, 5, none⟩ = some (.int .u8 xc5) := by rw [cell_of_row _ _ 5 _ _ _ Hxc.out]; rfl
        have fxc6 : (((((((w4.alloc (.cells (ar8 xd0 xd1 xd2 xd3 xd4 xd5 xd6 xd7) 31)).alloc ob1).alloc ob2).alloc ob3).alloc ob4).alloc ob5).alloc ob6).drew.cell? ⟨w3.heap.size, 6, none⟩ = some (.int .u8 xc6) := by rw [cell_of_row _ _ 6 _ _ _ Hxc.out]; rfl
        have fxc7 : (((((((w4.alloc (.cells (ar8 xd0 xd1 xd2 xd3 xd4 xd5 xd6 xd7) 31)).alloc ob1).alloc ob2).alloc ob3).alloc ob4).alloc ob5).alloc ob6).drew.cell? ⟨w3.heap.size, 7, none⟩ = some (.int .u8 xc7) := by rw [cell_of_row _ _ 7 _ _ _ Hxc.out]; rfl
        have fxd0 : (((((((w4.alloc (.cells (ar8 xd0 xd1 xd2 xd3 xd4 xd5 xd6 xd7) 31)).alloc ob1).alloc ob2).alloc ob3).alloc ob4).alloc ob5).alloc ob6).drew.cell? ⟨w4.heap.size, 0, none⟩ = some (.int .u8 xd0) := by rw [cell_of_row _ _ 0 _ _ _ Hxd.out]; rfl
        have fxd1 : (((((((w4.alloc (.cells (ar8 xd0 xd1 xd2 xd3 xd4 xd5 xd6 xd7) 31)).alloc ob1).alloc ob2).alloc ob3).alloc ob4).alloc ob5).alloc ob6).drew.cell? ⟨w4.heap.size, 1, none⟩ = some (.int .u8 xd1) := by rw [cell_of_row _ _ 1 _ _ _ Hxd.out]; rfl
        have fxd2 : (((((((w4.alloc (.cells (ar8 xd0 xd1 xd2 xd3 xd4 xd5 xd6 xd7) 31)).alloc ob1).alloc ob2).alloc ob3).alloc ob4).alloc ob5).alloc ob6).drew.cell? ⟨w4.heap.size, 2, none⟩ = some (.int .u8 xd2) := by rw [cell_of_row _ _ 2 _ _ _ Hxd.out]; rfl
        have fxd3 : (((((((w4.alloc (.cells (ar8 xd0 xd1 xd2 xd3 xd4 xd5 xd6 xd7) 31)).alloc ob1).alloc ob2).alloc ob3).alloc ob4).alloc ob5).alloc ob6).drew.cell? ⟨w4.heap.size, 3, none⟩ = some (.int .u8 xd3) := by rw [cell_of_row _ _ 3 _ _ _ Hxd.out]; rfl
        have fxd4 : (((((((w4.alloc (.cells (ar8 xd0 xd1 xd2 xd3 xd4 xd5 xd6 xd7) 31)).alloc ob1).alloc ob2).alloc ob3).alloc ob4).alloc ob5).alloc ob6).drew.cell? ⟨w4.heap.size, 4, none⟩ = some (.int .u8 xd4) := by rw [cell_of_row _ _ 4 _ _ _ Hxd.out]; rfl
        have fxd5 : (((((((w4.alloc (.cells (ar8 xd0 xd1 xd2 xd3 xd4 xd5 xd6 xd7) 31)).alloc ob1).alloc ob2).alloc ob3).alloc ob4).alloc ob5).alloc ob6).drew.cell? ⟨w4.heap.size, 5, none⟩ = some (.int .u8 xd5) := by rw [cell_of_row _ _ 5 _ _ _ Hxd.out]; rfl
        have fxd6 : (((((((w4.alloc (.cells (ar8 xd0 xd1 xd2 xd3 xd4 xd5 xd6 xd7) 31)).alloc ob1).alloc ob2).alloc ob3).alloc ob4).alloc ob5).alloc ob6).drew.cell? ⟨w4.heap.size, 6, none⟩ = some (.int .u8 xd6) := by rw [cell_of_row _ _ 6 _ _ _ Hxd.out]; rfl
        have fxd7 : (((((((w4.alloc (.cells (ar8 xd0 xd1 xd2 xd3 xd4 xd5 xd6 xd7) 31)).alloc ob1).alloc ob2).alloc ob3).alloc ob4).alloc ob5).alloc ob6).drew.cell? ⟨w4.heap.size, 7, none⟩ = some (.int .u8 xd7) := by rw [cell_of_row _ _ 7 _ _ _ Hxd.out]; rfl
        go_wp2_with fail
        go_meet
        exact ⟨rfl, ZB, ZGC, ZGY, ZGxa, ZGxc⟩
    · as_aux_lemma =>
        go_wp2_with fail
        go_meet
        exact ⟨rfl, ZB, ZGC, ZGY, ZGxa, ZGxc⟩
    · as_aux_lemma =>
        go_wp2_with fail
        go_meet
        exact ⟨rfl, ZB, ZGC, ZGY, ZGxa, ZGxc⟩
    · as_aux_lemma =>
        go_wp2_with fail
        go_meet
        exact ⟨rfl, ZB, ZGC, ZGY, ZGxa, ZGxc⟩
  case rest =>
    obtain ⟨rfl, BV, FC, FY, FA, FU⟩ := hcut
    clear Hxa Hxb Hxc Hxd
    go_upto_if 90 with fail
    go_cut [] from 16 (fun wx => Hid (Below w.heap.size w wx) ∧ Hid (wx.heap[w.heap.size]? = some (.cells (cmC k1 i1 s1 z1 n1 q1 a1 len1 cap1 t1 l1 c1 b1 e1 u1 m1 o1) 29 (0, 0))) ∧ Hid (wx.heap[w.heap.size + 1 + 1]? = some (.cells (ar8 y0 y1 y2 y3 y4 y5 y6 y7) 31 (0, 0))) ∧ Hid (wx.heap[w3.heap.size]? = some (.cells (ar8 xc0 xc1 xc2 xc3 xc4 xc5 xc6 xc7) 31 (0, 0))))
    case first =>
      rcases QA.out with ⟨oa, rfl⟩ | ⟨oa, rfl⟩
      · as_aux_lemma =>
          have exa0 : wc.cell? ⟨w1.heap.size, 0, none⟩ = some (.int .u8 xa0) := by rw [cell_of_row wc _ 0 _ _ _ FA.out]; rfl
          have exa1 : wc.cell? ⟨w1.heap.size, 1, none⟩ = some (.int .u8 xa1) := by rw [cell_of_row wc _ 1 _ _ _ FA.out]; rfl
          have exa2 : wc.cell? ⟨w1.heap.size, 2, none⟩ = some (.int .u8 xa2) := by rw [cell_of_row wc _ 2 _ _ _ FA.out]; rfl
          have exa3 : wc.cell? ⟨w1.heap.size, 3, none⟩ = some (.int .u8 xa3) := by rw [cell_of_row wc _ 3 _ _ _ FA.out]; rfl
          have exa4 : wc.cell? ⟨w1.heap.size, 4, none⟩ = some (.int .u8 xa4) := by rw [cell_of_row wc _ 4 _ _ _ FA.out]; rfl
          have exa5 : wc.cell? ⟨w1.heap.size, 5, none⟩ = some (.int .u8 xa5) := by rw [cell_of_row wc _ 5 _ _ _ FA.out]; rfl
          have exa6 : wc.cell? ⟨w1.heap.size, 6, none⟩ = some (.int .u8 xa6) := by rw [cell_of_row wc _ 6 _ _ _ FA.out]; rfl
          have exa7 : wc.cell? ⟨w1.heap.size, 7, none⟩ = some (.int .u8 xa7) := by rw [cell_of_row wc _ 7 _ _ _ FA.out]; rfl
          go_wp2_with fail
          refine (J1.out _ oa).mono ?_
          rintro r v1 ⟨a9, cap9, rfl, ht9, hb9⟩
          dsimp only at ht9 ⊢
          have hr9 := ht9.row
          clear ht9
          rw [hlen1.out]
          have BV1 : Below w.heap.size w v1 := Below.andThen BV.out hb9
          have FC1 : v1.heap[w.heap.size]? = some (.cells (cmC k1 i1 s1 z1 n1 q1 a1 len1 cap1 t1 l1 c1 b1 e1 u1 m1 o1) 29 (0, 0)) := (hb9.block _ (Array.getElem?_eq_some_iff.1 FC.out).1).trans FC.out
          have FY1 : v1.heap[w.heap.size + 1 + 1]? = some (.cells (ar8 y0 y1 y2 y3 y4 y5 y6 y7) 31 (0, 0)) := (hb9.block _ (Array.getElem?_eq_some_iff.1 FY.out).1).trans FY.out
          have FU1 : v1.heap[w3.heap.size]? = some (.cells (ar8 xc0 xc1 xc2 xc3 xc4 xc5 xc6 xc7) 31 (0, 0)) := (hb9.block _ (Array.getElem?_eq_some_iff.1 FU.out).1).trans FU.out
          have sc1 : w.heap.size < v1.heap.size := (Array.getElem?_eq_some_iff.1 FC1).1
          have sy1 : w.heap.size + 1 + 1 < v1.heap.size := (Array.getElem?_eq_some_iff.1 FY1).1
          have su1 : w3.heap.size < v1.heap.size := (Array.getElem?_eq_some_iff.1 FU1).1
          clear hb9
          go_wp2_with fail
          refine wp_region_held_drew (S := fun x => Below w.heap.size w x ∧ Below v1.heap.size v1 x ∧ x.heap[w.heap.size]? = some (.cells (cmC k1 i1 s1 z1 n1 q1 a1 len1 cap1 t1 l1 c1 b1 e1 u1 m1 o1) 29 (0, 0)) ∧ x.heap[v1.heap.size]? = some (.cells (cmC k1 i1 s1 z1 n1 q1 a9 len1 cap9 t1 l1 c1 b1 e1 u1 m1 o1) 29 (0, 0)) ∧ x.heap[w.heap.size + 1 + 1]? = some (.cells (ar8 y0 y1 y2 y3 y4 y5 y6 y7) 31 (0, 0)) ∧ x.heap[w3.heap.size]? = some (.cells (ar8 xc0 xc1 xc2 xc3 xc4 xc5 xc6 xc7) 31 (0, 0))) (by kernel_rfl) (⟨Below.drew (Below.al BV1 _), Below.drew (Below.al (Below.refl _ _) _), (heap_drew _ _).trans (ext_al FC1), (heap_drew _ _).trans (heap_new _ _), (heap_drew _ _).trans (ext_al FY1), (heap_drew _ _).trans (ext_al FU1)⟩) (fun hHeld => ?_)
          obtain ⟨hW, hV, hB, hZ, hY, hU⟩ := id hHeld
          refine tk 0 (.int .i64 0) rfl (.inl ⟨by rfl, ?_⟩) ?_
          · intro w9 hSw
            try dsimp only at hSw
            go_simp
            all_goals try decide
            all_goals try assumption
            all_goals try omega
          try simp only [Act.put, gA, gS, gZ, sA, sZ, sS]
          refine tk 1 (.bool false) rfl (.inl ⟨by rfl, ?_⟩) ?_
          · intro w9 hSw
            try dsimp only at hSw
            go_simp
            all_goals try decide
            all_goals try assumption
            all_goals try omega
          try simp only [Act.put, gA, gS, gZ, sA, sZ, sS]
          refine tk 2 (.bool false) rfl (.inl ⟨by rfl, ?_⟩) ?_
          · intro w9 hSw
            try dsimp only at hSw
            go_simp
            all_goals try decide
            all_goals try assumption
            all_goals try omega
          try simp only [Act.put, gA, gS, gZ, sA, sZ, sS]
          refine tk 3 (cmV k1 i1 s1 z1 n1 q1 a9 len1 cap9 t1 l1 c1 b1 e1 u1 m1 o1) rfl (.inl ⟨by rfl, ?_⟩) ?_
          · intro w9 hSw
            try dsimp only at hSw
            exact ex_load 29 (.tmp 16) rfl _ _ rfl (loadCM _ _ _ _ _ _ _ _ _ _ _ _ _ _ _ _ _ _ _ _ hSw.2.2.2.1)
          try simp only [Act.put, gA, gS, gZ, sA, sZ, sS]
          refine tk 5 (cmV k1 i1 s1 z1 n1 q1 a1 len1 cap1 t1 l1 c1 b1 e1 u1 m1 o1) rfl (.inl ⟨by rfl, ?_⟩) ?_
          · intro w9 hSw
            try dsimp only at hSw
            exact ex_load 29 (.tmp 3) rfl _ _ rfl (loadCM _ _ _ _ _ _ _ _ _ _ _ _ _ _ _ _ _ _ _ _ hSw.2.2.1)
          try simp only [Act.put, gA, gS, gZ, sA, sZ, sS]
          refine wpAnyH_ready (rs := [4]) (by kernel_rfl) (by simp) ?_
          refine AllReadyH.cons rfl (fun K' hK => ?_) AllReadyH.nil
          rw [if_pos (by rfl)]
          simp only [gA, gS, gZ]
          go_wp2_with fail
          refine (ref_any k1 i1 s1 z1 n1 q1 a9 len1 cap9 t1 l1 c1 b1 e1 u1 m1 o1 _).mono ?_
          rintro r ww1 ⟨rfl, ob1, ob2, rfl⟩
          try go_wp2_with fail
          refine hK.out _ _ (⟨Below.al (Below.al hW _) _, Below.al (Below.al hV _) _, ext_al (ext_al hB), ext_al (ext_al hZ), ext_al (ext_al hY), ext_al (ext_al hU)⟩) (fun hHeld => ?_)
          clear hK K'
          try simp only [Act.put, gA, gS, gZ, sA, sZ, sS]
          clear hW hV hB hZ hY hU
          obtain ⟨hW, hV, hB, hZ, hY, hU⟩ := id hHeld
          refine wpAnyH_ready (rs := [6]) (by kernel_rfl) (by simp) ?_
          refine AllReadyH.cons rfl (fun K' hK => ?_) AllReadyH.nil
          rw [if_pos (by rfl)]
          simp only [gA, gS, gZ]
          go_wp2_with fail
          refine (ref_any k1 i1 s1 z1 n1 q1 a1 len1 cap1 t1 l1 c1 b1 e1 u1 m1 o1 _).mono ?_
          rintro r ww2 ⟨rfl, ob3, ob4, rfl⟩
          try go_wp2_with fail
          refine hK.out _ _ (⟨Below.al (Below.al hW _) _, Below.al (Below.al hV _) _, ext_al (ext_al hB), ext_al (ext_al hZ), ext_al (ext_al hY), ext_al (ext_al hU)⟩) (fun hHeld => ?_)
          clear hK K'
          try simp only [Act.put, gA, gS, gZ, sA, sZ, sS]
          clear hW hV hB hZ hY hU
          obtain ⟨hW, hV, hB, hZ, hY, hU⟩ := id hHeld
          refine wpAnyH_ready (rs := [7]) (by kernel_rfl) (by simp) ?_
          refine AllReadyH.cons rfl (fun K' hK => ?_) AllReadyH.nil
          rw [if_pos (by rfl)]
          simp only [gA, gS, gZ]
          go_wp2_with fail
          refine (KB.out _ _ a9 cap9 hW rfl (hr9.next hV)).mono ?_
          rintro r ww3 ⟨rfl, ob5, ob6, rfl⟩
          try go_wp2_with fail
          refine hK.out _ _ (⟨Below.al (Below.al hW _) _, Below.al (Below.al hV _) _, ext_al (ext_al hB), ext_al (ext_al hZ), ext_al (ext_al hY), ext_al (ext_al hU)⟩) (fun hHeld => ?_)
          clear hK K'
          try simp only [Act.put, gA, gS, gZ, sA, sZ, sS]
          clear hW hV hB hZ hY hU
          obtain ⟨hW, hV, hB, hZ, hY, hU⟩ := id hHeld
          refine tk 8 (.bool false) rfl (.inl ⟨by rfl, ?_⟩) ?_
          · intro w9 hSw
            try dsimp only at hSw
            go_simp
            all_goals try decide
            all_goals try assumption
            all_goals try omega
          try simp only [Act.put, gA, gS, gZ, sA, sZ, sS]
          refine tk 9 (.bool false) rfl (.inl ⟨by rfl, ?_⟩) ?_
          · intro w9 hSw
            try dsimp only at hSw
            go_simp
            all_goals try decide
            all_goals try assumption
            all_goals try omega
          try simp only [Act.put, gA, gS, gZ, sA, sZ, sS]
          refine wpAnyH_done (by kernel_rfl) ?_ _
          go_wp2_with fail
          go_meet
          exact ⟨hW, hB, hY, hU⟩
      · as_aux_lemma =>
          go_wp2_with fail
          go_meet
          exact ⟨BV, FC, FY, FU⟩
    case rest =>
      clear BV FC FY FA FU
      obtain ⟨BV, FC, FY, FU⟩ := hcut
      go_upto_if 107 with fail
      go_cut [] from 16 (fun wx => Hid (Below w.heap.size w wx) ∧ Hid (wx.heap[w.heap.size]? = some (.cells (cmC k1 i1 s1 z1 n1 q1 a1 len1 cap1 t1 l1 c1 b1 e1 u1 m1 o1) 29 (0, 0))) ∧ Hid (wx.heap[w.heap.size + 1 + 1]? = some (.cells (ar8 y0 y1 y2 y3 y4 y5 y6 y7) 31 (0, 0))))
      case first =>
        rcases QC.out with ⟨oc, rfl⟩ | ⟨oc, rfl⟩
        · as_aux_lemma =>
            have exc0 : wc.cell? ⟨w3.heap.size, 0, none⟩ = some (.int .u8 xc0) := by rw [cell_of_row wc _ 0 _ _ _ FU.out]; rfl
            have exc1 : wc.cell? ⟨w3.heap.size, 1, none⟩ = some (.int .u8 xc1) := by rw [cell_of_row wc _ 1 _ _ _ FU.out]; rfl
            have exc2 : wc.cell? ⟨w3.heap.size, 2, none⟩ = some (.int .u8 xc2) := by rw [cell_of_row wc _ 2 _ _ _ FU.out]; rfl
            have exc3 : wc.cell? ⟨w3.heap.size, 3, none⟩ = some (.int .u8 xc3) := by rw [cell_of_row wc _ 3 _ _ _ FU.out]; rfl
            have exc4 : wc.cell? ⟨w3.heap.size, 4, none⟩ = some (.int .u8 xc4) := by rw [cell_of_row wc _ 4 _ _ _ FU.out]; rfl
            have exc5 : wc.cell? ⟨w3.heap.size, 5, none⟩ = some (.int .u8 xc5) := by rw [cell_of_row wc _ 5 _ _ _ FU.out]; rfl
            have exc6 : wc.cell? ⟨w3.heap.size, 6, none⟩ = some (.int .u8 xc6) := by rw [cell_of_row wc _ 6 _ _ _ FU.out]; rfl
            have exc7 : wc.cell? ⟨w3.heap.size, 7, none⟩ = some (.int .u8 xc7) := by rw [cell_of_row wc _ 7 _ _ _ FU.out]; rfl
            go_wp2_with fail
            refine (J2.out _ oc).mono ?_
            rintro r v1 ⟨a9, cap9, rfl, ht9, hb9⟩
            dsimp only at ht9 ⊢
            have hr9 := ht9.row
            clear ht9
            rw [hlen1.out]
            have BV1 : Below w.heap.size w v1 := Below.andThen BV.out hb9
            have FC1 : v1.heap[w.heap.size]? = some (.cells (cmC k1 i1 s1 z1 n1 q1 a1 len1 cap1 t1 l1 c1 b1 e1 u1 m1 o1) 29 (0, 0)) := (hb9.block _ (Array.getElem?_eq_some_iff.1 FC.out).1).trans FC.out
            have FY1 : v1.heap[w.heap.size + 1 + 1]? = some (.cells (ar8 y0 y1 y2 y3 y4 y5 y6 y7) 31 (0, 0)) := (hb9.block _ (Array.getElem?_eq_some_iff.1 FY.out).1).trans FY.out
            have FU1 : v1.heap[w3.heap.size]? = some (.cells (ar8 xc0 xc1 xc2 xc3 xc4 xc5 xc6 xc7) 31 (0, 0)) := (hb9.block _ (Array.getElem?_eq_some_iff.1 FU.out).1).trans FU.out
            have sc1 : w.heap.size < v1.heap.size := (Array.getElem?_eq_some_iff.1 FC1).1
            have sy1 : w.heap.size + 1 + 1 < v1.heap.size := (Array.getElem?_eq_some_iff.1 FY1).1
            have su1 : w3.heap.size < v1.heap.size := (Array.getElem?_eq_some_iff.1 FU1).1
            clear hb9
            go_wp2_with fail
            refine wp_region_held_drew (S := fun x => Below w.heap.size w x ∧ Below v1.heap.size v1 x ∧ x.heap[w.heap.size]? = some (.cells (cmC k1 i1 s1 z1 n1 q1 a1 len1 cap1 t1 l1 c1 b1 e1 u1 m1 o1) 29 (0, 0)) ∧ x.heap[v1.heap.size]? = some (.cells (cmC k1 i1 s1 z1 n1 q1 a9 len1 cap9 t1 l1 c1 b1 e1 u1 m1 o1) 29 (0, 0)) ∧ x.heap[w.heap.size + 1 + 1]? = some (.cells (ar8 y0 y1 y2 y3 y4 y5 y6 y7) 31 (0, 0))) (by kernel_rfl) (⟨Below.drew (Below.al BV1 _), Below.drew (Below.al (Below.refl _ _) _), (heap_drew _ _).trans (ext_al FC1), (heap_drew _ _).trans (heap_new _ _), (heap_drew _ _).trans (ext_al FY1)⟩) (fun hHeld => ?_)
            obtain ⟨hW, hV, hB, hZ, hY⟩ := id hHeld
            refine tk 0 (.int .i64 0) rfl (.inl ⟨by rfl, ?_⟩) ?_
            · intro w9 hSw
              try dsimp only at hSw
              go_simp
              all_goals try decide
              all_goals try assumption
              all_goals try omega
            try simp only [Act.put, gA, gS, gZ, sA, sZ, sS]
            refine tk 1 (.bool false) rfl (.inl ⟨by rfl, ?_⟩) ?_
            · intro w9 hSw
              try dsimp only at hSw
              go_simp
              all_goals try decide
              all_goals try assumption
              all_goals try omega
            try simp only [Act.put, gA, gS, gZ, sA, sZ, sS]
            refine tk 2 (.bool false) rfl (.inl ⟨by rfl, ?_⟩) ?_
            · intro w9 hSw
              try dsimp only at hSw
              go_simp
              all_goals try decide
              all_goals try assumption
              all_goals try omega
            try simp only [Act.put, gA, gS, gZ, sA, sZ, sS]
            refine tk 3 (cmV k1 i1 s1 z1 n1 q1 a9 len1 cap9 t1 l1 c1 b1 e1 u1 m1 o1) rfl (.inl ⟨by rfl, ?_⟩) ?_
            · intro w9 hSw
              try dsimp only at hSw
              exact ex_load 29 (.tmp 18) rfl _ _ rfl (loadCM _ _ _ _ _ _ _ _ _ _ _ _ _ _ _ _ _ _ _ _ hSw.2.2.2.1)
            try simp only [Act.put, gA, gS, gZ, sA, sZ, sS]
            refine tk 5 (cmV k1 i1 s1 z1 n1 q1 a1 len1 cap1 t1 l1 c1 b1 e1 u1 m1 o1) rfl (.inl ⟨by rfl, ?_⟩) ?_
            · intro w9 hSw
              try dsimp only at hSw
              exact ex_load 29 (.tmp 3) rfl _ _ rfl (loadCM _ _ _ _ _ _ _ _ _ _ _ _ _ _ _ _ _ _ _ _ hSw.2.2.1)
            try simp only [Act.put, gA, gS, gZ, sA, sZ, sS]
            refine wpAnyH_ready (rs := [4]) (by kernel_rfl) (by simp) ?_
            refine AllReadyH.cons rfl (fun K' hK => ?_) AllReadyH.nil
            rw [if_pos (by rfl)]
            simp only [gA, gS, gZ]
            go_wp2_with fail
            refine (ref_any k1 i1 s1 z1 n1 q1 a9 len1 cap9 t1 l1 c1 b1 e1 u1 m1 o1 _).mono ?_
            rintro r ww1 ⟨rfl, ob1, ob2, rfl⟩
            try go_wp2_with fail
            refine hK.out _ _ (⟨Below.al (Below.al hW _) _, Below.al (Below.al hV _) _, ext_al (ext_al hB), ext_al (ext_al hZ), ext_al (ext_al hY)⟩) (fun hHeld => ?_)
            clear hK K'
            try simp only [Act.put, gA, gS, gZ, sA, sZ, sS]
            clear hW hV hB hZ hY
            obtain ⟨hW, hV, hB, hZ, hY⟩ := id hHeld
            refine wpAnyH_ready (rs := [6]) (by kernel_rfl) (by simp) ?_
            refine AllReadyH.cons rfl (fun K' hK => ?_) AllReadyH.nil
            rw [if_pos (by rfl)]
            simp only [gA, gS, gZ]
            go_wp2_with fail
            refine (ref_any k1 i1 s1 z1 n1 q1 a1 len1 cap1 t1 l1 c1 b1 e1 u1 m1 o1 _).mono ?_
            rintro r ww2 ⟨rfl, ob3, ob4, rfl⟩
            try go_wp2_with fail
            refine hK.out _ _ (⟨Below.al (Below.al hW _) _, Below.al (Below.al hV _) _, ext_al (ext_al hB), ext_al (ext_al hZ), ext_al (ext_al hY)⟩) (fun hHeld => ?_)
            clear hK K'
            try simp only [Act.put, gA, gS, gZ, sA, sZ, sS]
            clear hW hV hB hZ hY
            obtain ⟨hW, hV, hB, hZ, hY⟩ := id hHeld
            refine wpAnyH_ready (rs := [7]) (by kernel_rfl) (by simp) ?_
            refine AllReadyH.cons rfl (fun K' hK => ?_) AllReadyH.nil
            rw [if_pos (by rfl)]
            simp only [gA, gS, gZ]
            go_wp2_with fail
            refine (KB.out _ _ a9 cap9 hW rfl (hr9.next hV)).mono ?_
            rintro r ww3 ⟨rfl, ob5, ob6, rfl⟩
            try go_wp2_with fail
            refine hK.out _ _ (⟨Below.al (Below.al hW _) _, Below.al (Below.al hV _) _, ext_al (ext_al hB), ext_al (ext_al hZ), ext_al (ext_al hY)⟩) (fun hHeld => ?_)
            clear hK K'
            try simp only [Act.put, gA, gS, gZ, sA, sZ, sS]
            clear hW hV hB hZ hY
            obtain ⟨hW, hV, hB, hZ, hY⟩ := id hHeld
            refine tk 8 (.bool false) rfl (.inl ⟨by rfl, ?_⟩) ?_
            · intro w9 hSw
              try dsimp only at hSw
              go_simp
              all_goals try decide
              all_goals try assumption
              all_goals try omega
            try simp only [Act.put, gA, gS, gZ, sA, sZ, sS]
            refine tk 9 (.bool false) rfl (.inl ⟨by rfl, ?_⟩) ?_
            · intro w9 hSw
              try dsimp only at hSw
              go_simp
              all_goals try decide
              all_goals try assumption
              all_goals try omega
            try simp only [Act.put, gA, gS, gZ, sA, sZ, sS]
            refine wpAnyH_done (by kernel_rfl) ?_ _
            go_wp2_with fail
            go_meet
            exact ⟨hW, hB, hY⟩
        · as_aux_lemma =>
            go_wp2_with fail
            go_meet
            exact ⟨BV, FC, FY⟩
      case rest =>
        clear BV FC FY FU
        obtain ⟨BV, FC, FY⟩ := hcut
        have hyy := same_me y0 y1 y2 y3 y4 y5 y6 y7
        have yw0 : wc.cell? ⟨w.heap.size + 1 + 1, 0, none⟩ = some (.int .u8 y0) := by rw [cell_of_row wc _ 0 _ _ _ FY.out]; rfl
        have yw1 : wc.cell? ⟨w.heap.size + 1 + 1, 1, none⟩ = some (.int .u8 y1) := by rw [cell_of_row wc _ 1 _ _ _ FY.out]; rfl
        have yw2 : wc.cell? ⟨w.heap.size + 1 + 1, 2, none⟩ = some (.int .u8 y2) := by rw [cell_of_row wc _ 2 _ _ _ FY.out]; rfl
        have yw3 : wc.cell? ⟨w.heap.size + 1 + 1, 3, none⟩ = some (.int .u8 y3) := by rw [cell_of_row wc _ 3 _ _ _ FY.out]; rfl
        have yw4 : wc.cell? ⟨w.heap.size + 1 + 1, 4, none⟩ = some (.int .u8 y4) := by rw [cell_of_row wc _ 4 _ _ _ FY.out]; rfl
        have yw5 : wc.cell? ⟨w.heap.size + 1 + 1, 5, none⟩ = some (.int .u8 y5) := by rw [cell_of_row wc _ 5 _ _ _ FY.out]; rfl
        have yw6 : wc.cell? ⟨w.heap.size + 1 + 1, 6, none⟩ = some (.int .u8 y6) := by rw [cell_of_row wc _ 6 _ _ _ FY.out]; rfl
        have yw7 : wc.cell? ⟨w.heap.size + 1 + 1, 7, none⟩ = some (.int .u8 y7) := by rw [cell_of_row wc _ 7 _ _ _ FY.out]; rfl
        cases O1 with
        | none =>
          go_wp2_with fail
          refine (M1.out _).mono ?_
          rintro r v1 ⟨rfl, hb9⟩
          have B1 : Below w.heap.size w v1 := Below.andThen BV.out hb9
          have Y1 : v1.heap[w.heap.size + 1 + 1]? = some (.cells (ar8 y0 y1 y2 y3 y4 y5 y6 y7) 31 (0, 0)) := (hb9.block _ (Array.getElem?_eq_some_iff.1 FY.out).1).trans FY.out
          have yv0 : v1.cell? ⟨w.heap.size + 1 + 1, 0, none⟩ = some (.int .u8 y0) := by rw [cell_of_row v1 _ 0 _ _ _ Y1]; rfl
          have yv1 : v1.cell? ⟨w.heap.size + 1 + 1, 1, none⟩ = some (.int .u8 y1) := by rw [cell_of_row v1 _ 1 _ _ _ Y1]; rfl
          have yv2 : v1.cell? ⟨w.heap.size + 1 + 1, 2, none⟩ = some (.int .u8 y2) := by rw [cell_of_row v1 _ 2 _ _ _ Y1]; rfl
          have yv3 : v1.cell? ⟨w.heap.size + 1 + 1, 3, none⟩ = some (.int .u8 y3) := by rw [cell_of_row v1 _ 3 _ _ _ Y1]; rfl
          have yv4 : v1.cell? ⟨w.heap.size + 1 + 1, 4, none⟩ = some (.int .u8 y4) := by rw [cell_of_row v1 _ 4 _ _ _ Y1]; rfl
          have yv5 : v1.cell? ⟨w.heap.size + 1 + 1, 5, none⟩ = some (.int .u8 y5) := by rw [cell_of_row v1 _ 5 _ _ _ Y1]; rfl
          have yv6 : v1.cell? ⟨w.heap.size + 1 + 1, 6, none⟩ = some (.int .u8 y6) := by rw [cell_of_row v1 _ 6 _ _ _ Y1]; rfl
          have yv7 : v1.cell? ⟨w.heap.size + 1 + 1, 7, none⟩ = some (.int .u8 y7) := by rw [cell_of_row v1 _ 7 _ _ _ Y1]; rfl
          have s1 : w.heap.size + 1 + 1 < v1.heap.size := (Array.getElem?_eq_some_iff.1 Y1).1
          clear hb9
          go_wp2_with fail
          have BX : Below w.heap.size w (v1.alloc (.cells (cmC 0 0 0 false 0 false none 0 0 false false false 0 0 0 0 0) 29)) := Below.al B1 _
          have YX : (v1.alloc (.cells (cmC 0 0 0 false 0 false none 0 0 false false false 0 0 0 0 0) 29)).heap[w.heap.size + 1 + 1]? = some (.cells (ar8 y0 y1 y2 y3 y4 y5 y6 y7) 31 (0, 0)) := (Below.heap_alloc _ _ _ s1).trans Y1
          have hPX : (v1.alloc (.cells (cmC 0 0 0 false 0 false none 0 0 false false false 0 0 0 0 0) 29)).heap[v1.heap.size]? = some (.cells (cmC 0 0 0 false 0 false none 0 0 false false false 0 0 0 0 0) 29 (0, 0)) := heap_new _ _
          cases O2 with
          | none =>
            as_aux_lemma =>
              refine (M2.out _).mono ?_
              rintro r u1 ⟨rfl, hbu⟩
              have Bu : Below w.heap.size w u1 := Below.andThen BX hbu
              have hPu : u1.heap[v1.heap.size]? = some (.cells (cmC 0 0 0 false 0 false none 0 0 false false false 0 0 0 0 0) 29 (0, 0)) := (hbu.block _ (Array.getElem?_eq_some_iff.1 hPX).1).trans hPX
              clear hbu
              go_wp2_with (refine wpList_store_by rfl 29 _ _ rfl _ _ rfl rfl (storeCM u1 (v1.heap.size) _ 0 0 0 false 0 false none 0 0 false false false 0 0 0 0 0 _ hPu rfl) ?_)
              with_reducible refine (works_any _).mono ?_
              rintro r vf ⟨rfl, hbf⟩
              have Bf : Below w.heap.size w vf := Below.andThen (below_setRow Bu (by omega) _) hbf
              go_wp2_with fail
              go_ret
              exact ⟨rfl, Bf⟩
          | some z8 =>
            as_aux_lemma =>
              obtain ⟨k8, i8, s8, z8, n8, q8, d8, t8, l8, c8, b8, e8, u8, m8, o8⟩ := z8
              refine (M2.out _).mono ?_
              rintro r u1 ⟨a8, cap8, rfl, ht8, hbu⟩
              dsimp only at ht8 ⊢
              have hN2 := fun W hr => N2.out W _ a8 cap8 rfl hr
              dsimp only at hN2
              obtain ⟨len8, hl8⟩ : ∃ len8, d8.length = len8 := ⟨_, rfl⟩
              rw [hl8] at ht8 hN2 ⊢
              have Bu : Below w.heap.size w u1 := Below.andThen BX hbu
              have hPu : u1.heap[v1.heap.size]? = some (.cells (cmC 0 0 0 false 0 false none 0 0 false false false 0 0 0 0 0) 29 (0, 0)) := (hbu.block _ (Array.getElem?_eq_some_iff.1 hPX).1).trans hPX
              have Yu : u1.heap[w.heap.size + 1 + 1]? = some (.cells (ar8 y0 y1 y2 y3 y4 y5 y6 y7) 31 (0, 0)) := (hbu.block _ (Array.getElem?_eq_some_iff.1 YX).1).trans YX
              have hPs : (u1.setRow (v1.heap.size) (cmC k8 i8 s8 z8 n8 q8 a8 len8 cap8 t8 l8 c8 b8 e8 u8 m8 o8)).heap[v1.heap.size]? = some (.cells (cmC k8 i8 s8 z8 n8 q8 a8 len8 cap8 t8 l8 c8 b8 e8 u8 m8 o8) 29 (0, 0)) := setRow_heap _ _ _ _ _ _ hPu
              have Ys : (u1.setRow (v1.heap.size) (cmC k8 i8 s8 z8 n8 q8 a8 len8 cap8 t8 l8 c8 b8 e8 u8 m8 o8)).heap[w.heap.size + 1 + 1]? = some (.cells (ar8 y0 y1 y2 y3 y4 y5 y6 y7) 31 (0, 0)) := (setRow_other _ _ _ _ (by omega)).trans Yu
              have Bs : Below w.heap.size w (u1.setRow (v1.heap.size) (cmC k8 i8 s8 z8 n8 q8 a8 len8 cap8 t8 l8 c8 b8 e8 u8 m8 o8)) := below_setRow Bu (by omega) _
              have lX := (Array.getElem?_eq_some_iff.1 hPX).1
              have HR8 : Hid (Row (u1.setRow (v1.heap.size) (cmC k8 i8 s8 z8 n8 q8 a8 len8 cap8 t8 l8 c8 b8 e8 u8 m8 o8)) a8 len8 d8) := (ht8.other (w := w) BX.size (fun g hg => setRow_other _ _ _ _ (by have h9 := Nat.lt_of_lt_of_le lX hg; omega))).row
              have HN2 := hN2 _ HR8.out
              clear ht8 hbu hN2 HR8
              go_wp2_with (first | (refine wpList_store_by rfl 29 _ _ rfl _ _ rfl rfl (storeCM u1 (v1.heap.size) _ k8 i8 s8 z8 n8 q8 a8 len8 cap8 t8 l8 c8 b8 e8 u8 m8 o8 _ hPu rfl) ?_) | (refine wpList_load_by rfl 29 _ rfl _ _ rfl (loadCM _ (v1.heap.size) k8 i8 s8 z8 n8 q8 a8 len8 cap8 t8 l8 c8 b8 e8 u8 m8 o8 _ hPs) ?_))
              refine HN2.mono ?_
              rintro r u3 ⟨rfl, hb3⟩
              have B3 : Below w.heap.size w u3 := Below.andThen Bs hb3
              have Y3 : u3.heap[w.heap.size + 1 + 1]? = some (.cells (ar8 y0 y1 y2 y3 y4 y5 y6 y7) 31 (0, 0)) := (hb3.block _ (Array.getElem?_eq_some_iff.1 Ys).1).trans Ys
              have yu0 : u3.cell? ⟨w.heap.size + 1 + 1, 0, none⟩ = some (.int .u8 y0) := by rw [cell_of_row u3 _ 0 _ _ _ Y3]; rfl
              have yu1 : u3.cell? ⟨w.heap.size + 1 + 1, 1, none⟩ = some (.int .u8 y1) := by rw [cell_of_row u3 _ 1 _ _ _ Y3]; rfl
              have yu2 : u3.cell? ⟨w.heap.size + 1 + 1, 2, none⟩ = some (.int .u8 y2) := by rw [cell_of_row u3 _ 2 _ _ _ Y3]; rfl
              have yu3 : u3.cell? ⟨w.heap.size + 1 + 1, 3, none⟩ = some (.int .u8 y3) := by rw [cell_of_row u3 _ 3 _ _ _ Y3]; rfl
              have yu4 : u3.cell? ⟨w.heap.size + 1 + 1, 4, none⟩ = some (.int .u8 y4) := by rw [cell_of_row u3 _ 4 _ _ _ Y3]; rfl
              have yu5 : u3.cell? ⟨w.heap.size + 1 + 1, 5, none⟩ = some (.int .u8 y5) := by rw [cell_of_row u3 _ 5 _ _ _ Y3]; rfl
              have yu6 : u3.cell? ⟨w.heap.size + 1 + 1, 6, none⟩ = some (.int .u8 y6) := by rw [cell_of_row u3 _ 6 _ _ _ Y3]; rfl
              have yu7 : u3.cell? ⟨w.heap.size + 1 + 1, 7, none⟩ = some (.int .u8 y7) := by rw [cell_of_row u3 _ 7 _ _ _ Y3]; rfl
              have s3 : w.heap.size + 1 + 1 < u3.heap.size := (Array.getElem?_eq_some_iff.1 Y3).1
              clear hb3 Y3 hPs Ys
              go_wp2_with fail
              with_reducible refine (works_any _).mono ?_
              rintro r vf ⟨rfl, hbf⟩
              have Bf : Below w.heap.size w vf := Below.andThen (Below.al B3 _) hbf
              go_wp2_with fail
              go_ret
              exact ⟨rfl, Bf⟩
        | some z9 =>
          obtain ⟨k9, i9, s9, z9, n9, q9, d9, t9, l9, c9, b9, e9, u9, m9, o9⟩ := z9
          go_wp2_with fail
          refine (M1.out _).mono ?_
          rintro r v1 ⟨a9, cap9, rfl, ht9, hb9⟩
          dsimp only at ht9 ⊢
          have hr9 := ht9.row
          have hN1 := fun W hr => N1.out W _ a9 cap9 rfl hr
          dsimp only at hN1
          obtain ⟨len9, hl9⟩ : ∃ len9, d9.length = len9 := ⟨_, rfl⟩
          rw [hl9] at hr9 hN1 ⊢
          clear ht9
          have B1 : Below w.heap.size w v1 := Below.andThen BV.out hb9
          have Y1 : v1.heap[w.heap.size + 1 + 1]? = some (.cells (ar8 y0 y1 y2 y3 y4 y5 y6 y7) 31 (0, 0)) := (hb9.block _ (Array.getElem?_eq_some_iff.1 FY.out).1).trans FY.out
          have yv0 : v1.cell? ⟨w.heap.size + 1 + 1, 0, none⟩ = some (.int .u8 y0) := by rw [cell_of_row v1 _ 0 _ _ _ Y1]; rfl
          have yv1 : v1.cell? ⟨w.heap.size + 1 + 1, 1, none⟩ = some (.int .u8 y1) := by rw [cell_of_row v1 _ 1 _ _ _ Y1]; rfl
          have yv2 : v1.cell? ⟨w.heap.size + 1 + 1, 2, none⟩ = some (.int .u8 y2) := by rw [cell_of_row v1 _ 2 _ _ _ Y1]; rfl
          have yv3 : v1.cell? ⟨w.heap.size + 1 + 1, 3, none⟩ = some (.int .u8 y3) := by rw [cell_of_row v1 _ 3 _ _ _ Y1]; rfl
          have yv4 : v1.cell? ⟨w.heap.size + 1 + 1, 4, none⟩ = some (.int .u8 y4) := by rw [cell_of_row v1 _ 4 _ _ _ Y1]; rfl
          have yv5 : v1.cell? ⟨w.heap.size + 1 + 1, 5, none⟩ = some (.int .u8 y5) := by rw [cell_of_row v1 _ 5 _ _ _ Y1]; rfl
          have yv6 : v1.cell? ⟨w.heap.size + 1 + 1, 6, none⟩ = some (.int .u8 y6) := by rw [cell_of_row v1 _ 6 _ _ _ Y1]; rfl
          have yv7 : v1.cell? ⟨w.heap.size + 1 + 1, 7, none⟩ = some (.int .u8 y7) := by rw [cell_of_row v1 _ 7 _ _ _ Y1]; rfl
          have s1 : w.heap.size + 1 + 1 < v1.heap.size := (Array.getElem?_eq_some_iff.1 Y1).1
          clear hb9
          have HN1 := hN1 (v1.alloc (.cells (cmC k9 i9 s9 z9 n9 q9 a9 len9 cap9 t9 l9 c9 b9 e9 u9 m9 o9) 29)) (hr9.next (by repeat (first | exact Below.refl _ _ | apply Below.drew | apply Below.al)))
          clear hN1 hr9
          go_wp2_with fail
          refine HN1.mono ?_
          rintro r v2 ⟨rfl, hb2⟩
          have B2' : Below w.heap.size w v2 := Below.andThen (Below.al B1 _) hb2
          have Y2 : v2.heap[w.heap.size + 1 + 1]? = some (.cells (ar8 y0 y1 y2 y3 y4 y5 y6 y7) 31 (0, 0)) := (hb2.block _ (by simp; omega)).trans ((Below.heap_alloc _ _ _ s1).trans Y1)
          have hP2 : v2.heap[v1.heap.size]? = some (.cells (cmC k9 i9 s9 z9 n9 q9 a9 len9 cap9 t9 l9 c9 b9 e9 u9 m9 o9) 29 (0, 0)) := (hb2.block _ (by simp)).trans (heap_new _ _)
          have yx0 : v2.cell? ⟨w.heap.size + 1 + 1, 0, none⟩ = some (.int .u8 y0) := by rw [cell_of_row v2 _ 0 _ _ _ Y2]; rfl
          have yx1 : v2.cell? ⟨w.heap.size + 1 + 1, 1, none⟩ = some (.int .u8 y1) := by rw [cell_of_row v2 _ 1 _ _ _ Y2]; rfl
          have yx2 : v2.cell? ⟨w.heap.size + 1 + 1, 2, none⟩ = some (.int .u8 y2) := by rw [cell_of_row v2 _ 2 _ _ _ Y2]; rfl
          have yx3 : v2.cell? ⟨w.heap.size + 1 + 1, 3, none⟩ = some (.int .u8 y3) := by rw [cell_of_row v2 _ 3 _ _ _ Y2]; rfl
          have yx4 : v2.cell? ⟨w.heap.size + 1 + 1, 4, none⟩ = some (.int .u8 y4) := by rw [cell_of_row v2 _ 4 _ _ _ Y2]; rfl
          have yx5 : v2.cell? ⟨w.heap.size + 1 + 1, 5, none⟩ = some (.int .u8 y5) := by rw [cell_of_row v2 _ 5 _ _ _ Y2]; rfl
          have yx6 : v2.cell? ⟨w.heap.size + 1 + 1, 6, none⟩ = some (.int .u8 y6) := by rw [cell_of_row v2 _ 6 _ _ _ Y2]; rfl
          have yx7 : v2.cell? ⟨w.heap.size + 1 + 1, 7, none⟩ = some (.int .u8 y7) := by rw [cell_of_row v2 _ 7 _ _ _ Y2]; rfl
          have s2 : w.heap.size + 1 + 1 < v2.heap.size := (Array.getElem?_eq_some_iff.1 Y2).1
          have s2' : v1.heap.size < v2.heap.size := (Array.getElem?_eq_some_iff.1 hP2).1
          clear hb2
          go_wp2_with fail
          have BX : Below w.heap.size w (v2.alloc (.cells (ar8 y0 y1 y2 y3 y4 y5 y6 y7) 31)) := Below.al B2' _
          have YX : (v2.alloc (.cells (ar8 y0 y1 y2 y3 y4 y5 y6 y7) 31)).heap[w.heap.size + 1 + 1]? = some (.cells (ar8 y0 y1 y2 y3 y4 y5 y6 y7) 31 (0, 0)) := (Below.heap_alloc _ _ _ s2).trans Y2
          have hPX : (v2.alloc (.cells (ar8 y0 y1 y2 y3 y4 y5 y6 y7) 31)).heap[v1.heap.size]? = some (.cells (cmC k9 i9 s9 z9 n9 q9 a9 len9 cap9 t9 l9 c9 b9 e9 u9 m9 o9) 29 (0, 0)) := (Below.heap_alloc _ _ _ s2').trans hP2
          cases O2 with
          | none =>
            as_aux_lemma =>
              refine (M2.out _).mono ?_
              rintro r u1 ⟨rfl, hbu⟩
              have Bu : Below w.heap.size w u1 := Below.andThen BX hbu
              have hPu : u1.heap[v1.heap.size]? = some (.cells (cmC k9 i9 s9 z9 n9 q9 a9 len9 cap9 t9 l9 c9 b9 e9 u9 m9 o9) 29 (0, 0)) := (hbu.block _ (Array.getElem?_eq_some_iff.1 hPX).1).trans hPX
              clear hbu
              go_wp2_with (refine wpList_store_by rfl 29 _ _ rfl _ _ rfl rfl (storeCM u1 (v1.heap.size) _ 0 0 0 false 0 false none 0 0 false false false 0 0 0 0 0 _ hPu rfl) ?_)
              with_reducible refine (works_any _).mono ?_
              rintro r vf ⟨rfl, hbf⟩
              have Bf : Below w.heap.size w vf := Below.andThen (below_setRow Bu (by omega) _) hbf
              go_wp2_with fail
              go_ret
              exact ⟨rfl, Bf⟩
          | some z8 =>
            as_aux_lemma =>
              obtain ⟨k8, i8, s8, z8, n8, q8, d8, t8, l8, c8, b8, e8, u8, m8, o8⟩ := z8
              refine (M2.out _).mono ?_
              rintro r u1 ⟨a8, cap8, rfl, ht8, hbu⟩
              dsimp only at ht8 ⊢
              have hN2 := fun W hr => N2.out W _ a8 cap8 rfl hr
              dsimp only at hN2
              obtain ⟨len8, hl8⟩ : ∃ len8, d8.length = len8 := ⟨_, rfl⟩
              rw [hl8] at ht8 hN2 ⊢
              have Bu : Below w.heap.size w u1 := Below.andThen BX hbu
              have hPu : u1.heap[v1.heap.size]? = some (.cells (cmC k9 i9 s9 z9 n9 q9 a9 len9 cap9 t9 l9 c9 b9 e9 u9 m9 o9) 29 (0, 0)) := (hbu.block _ (Array.getElem?_eq_some_iff.1 hPX).1).trans hPX
              have Yu : u1.heap[w.heap.size + 1 + 1]? = some (.cells (ar8 y0 y1 y2 y3 y4 y5 y6 y7) 31 (0, 0)) := (hbu.block _ (Array.getElem?_eq_some_iff.1 YX).1).trans YX
              have hPs : (u1.setRow (v1.heap.size) (cmC k8 i8 s8 z8 n8 q8 a8 len8 cap8 t8 l8 c8 b8 e8 u8 m8 o8)).heap[v1.heap.size]? = some (.cells (cmC k8 i8 s8 z8 n8 q8 a8 len8 cap8 t8 l8 c8 b8 e8 u8 m8 o8) 29 (0, 0)) := setRow_heap _ _ _ _ _ _ hPu
              have Ys : (u1.setRow (v1.heap.size) (cmC k8 i8 s8 z8 n8 q8 a8 len8 cap8 t8 l8 c8 b8 e8 u8 m8 o8)).heap[w.heap.size + 1 + 1]? = some (.cells (ar8 y0 y1 y2 y3 y4 y5 y6 y7) 31 (0, 0)) := (setRow_other _ _ _ _ (by omega)).trans Yu
              have Bs : Below w.heap.size w (u1.setRow (v1.heap.size) (cmC k8 i8 s8 z8 n8 q8 a8 len8 cap8 t8 l8 c8 b8 e8 u8 m8 o8)) := below_setRow Bu (by omega) _
              have lX := (Array.getElem?_eq_some_iff.1 hPX).1
              have HR8 : Hid (Row (u1.setRow (v1.heap.size) (cmC k8 i8 s8 z8 n8 q8 a8 len8 cap8 t8 l8 c8 b8 e8 u8 m8 o8)) a8 len8 d8) := (ht8.other (w := w) BX.size (fun g hg => setRow_other _ _ _ _ (by have h9 := Nat.lt_of_lt_of_le lX hg; omega))).row
              have HN2 := hN2 _ HR8.out
              clear ht8 hbu hN2 HR8
              go_wp2_with (first | (refine wpList_store_by rfl 29 _ _ rfl _ _ rfl rfl (storeCM u1 (v1.heap.size) _ k8 i8 s8 z8 n8 q8 a8 len8 cap8 t8 l8 c8 b8 e8 u8 m8 o8 _ hPu rfl) ?_) | (refine wpList_load_by rfl 29 _ rfl _ _ rfl (loadCM _ (v1.heap.size) k8 i8 s8 z8 n8 q8 a8 len8 cap8 t8 l8 c8 b8 e8 u8 m8 o8 _ hPs) ?_))
              refine HN2.mono ?_
              rintro r u3 ⟨rfl, hb3⟩
              have B3 : Below w.heap.size w u3 := Below.andThen Bs hb3
              have Y3 : u3.heap[w.heap.size + 1 + 1]? = some (.cells (ar8 y0 y1 y2 y3 y4 y5 y6 y7) 31 (0, 0)) := (hb3.block _ (Array.getElem?_eq_some_iff.1 Ys).1).trans Ys
              have yu0 : u3.cell? ⟨w.heap.size + 1 + 1, 0, none⟩ = some (.int .u8 y0) := by rw [cell_of_row u3 _ 0 _ _ _ Y3]; rfl
              have yu1 : u3.cell? ⟨w.heap.size + 1 + 1, 1, none⟩ = some (.int .u8 y1) := by rw [cell_of_row u3 _ 1 _ _ _ Y3]; rfl
              have yu2 : u3.cell? ⟨w.heap.size + 1 + 1, 2, none⟩ = some (.int .u8 y2) := by rw [cell_of_row u3 _ 2 _ _ _ Y3]; rfl
              have yu3 : u3.cell? ⟨w.heap.size + 1 + 1, 3, none⟩ = some (.int .u8 y3) := by rw [cell_of_row u3 _ 3 _ _ _ Y3]; rfl
              have yu4 : u3.cell? ⟨w.heap.size + 1 + 1, 4, none⟩ = some (.int .u8 y4) := by rw [cell_of_row u3 _ 4 _ _ _ Y3]; rfl
              have yu5 : u3.cell? ⟨w.heap.size + 1 + 1, 5, none⟩ = some (.int .u8 y5) := by rw [cell_of_row u3 _ 5 _ _ _ Y3]; rfl
              have yu6 : u3.cell? ⟨w.heap.size + 1 + 1, 6, none⟩ = some (.int .u8 y6) := by rw [cell_of_row u3 _ 6 _ _ _ Y3]; rfl
              have yu7 : u3.cell? ⟨w.heap.size + 1 + 1, 7, none⟩ = some (.int .u8 y7) := by rw [cell_of_row u3 _ 7 _ _ _ Y3]; rfl
              have s3 : w.heap.size + 1 + 1 < u3.heap.size := (Array.getElem?_eq_some_iff.1 Y3).1
              clear hb3 Y3 hPs Ys
              go_wp2_with fail
              with_reducible refine (works_any _).mono ?_
              rintro r vf ⟨rfl, hbf⟩
              have Bf : Below w.heap.size w vf := Below.andThen (Below.al B3 _) hbf
              go_wp2_with fail
              go_ret
              exact ⟨rfl, Bf⟩
  
#print axioms shortBack_any
end Go.Proofs.Ytlnlejdjekbipaa
