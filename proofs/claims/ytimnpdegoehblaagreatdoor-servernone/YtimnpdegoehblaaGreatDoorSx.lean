/-
  The walk of commandOf, over any table.
  The walks of Asked and Answered.
-/
import Derived.Test.YtimnpdegoehblaaGreatDoorPb
import Derived.Test.YtimnpdegoehblaaGreatDoorSv
import Derived.Test.YtimnpdegoehblaaGreatDoorTk9
namespace Go.Proofs.YtimnpdegoehblaaGreatDoor
open Go.RowKit

/-- What commandOf tells. -/
def CPost (w : World) : Option Cm → Ending → World → Prop
  | some x, r, w' => ∃ a cap, r = .returned (.tuple #[x.v a x.d.length cap, .int .i64 0]) ∧ Told w w' a x.d.length cap x.d ∧ Below w.heap.size w w'
  | none, r, w' => r = .returned (.tuple #[cmV 0 0 0 false 0 false none 0 0 false false false 0 0 0 0 0, .int .i64 11]) ∧ Below w.heap.size w w'
theorem Told.keep {w W w1 w2 : World} {a : Option Addr} {len cap : Nat} {zs : List Int} (h : Told W w1 a len cap zs) (hs : w.heap.size ≤ W.heap.size) (hk : ∀ g, W.heap.size ≤ g → g < w1.heap.size → w2.heap[g]? = w1.heap[g]?) : Told w w2 a len cap zs := by
  refine ⟨⟨h.row.size, h.row.oct, fun hp => ?_⟩, h.le, h.max, fun hp => ?_⟩
  · obtain ⟨g, rfl, hg, _⟩ := h.own hp
    obtain ⟨b, off, e, hc⟩ := h.row.at_ hp
    cases e
    exact ⟨_, 0, rfl, fun i hi => (World.cell?_of_block (w := w1) (a := ⟨g, 0 + i, none⟩) (hk g hg (block_lt_of_cell (hc 0 hp)))).trans (hc i hi)⟩
  · obtain ⟨g, e, hg, hz⟩ := h.own hp
    obtain ⟨b, off, e', hc⟩ := h.row.at_ hp
    rw [e] at e'
    cases e'
    exact ⟨g, e, Nat.le_trans hs hg, fun i hi => (World.frozen?_of_block (w := w1) (a := ⟨g, i, none⟩) (hk g hg (block_lt_of_cell (hc 0 hp)))).trans (hz i hi)⟩

set_option linter.unusedSimpArgs false in
set_option maxHeartbeats 4000000 in
set_option maxRecDepth 100000 in
theorem commandOf_any (g N : Nat) (y : B8) (R : Cm) (O : Option B8) (w : World)
    (hC : ∀ W, Below w.heap.size w W → Calls Tryz.prog 59 #[.slice (some ⟨g, 0, none⟩) N N, arr8 y.b0 y.b1 y.b2 y.b3 y.b4 y.b5 y.b6 y.b7] W (RPost W R))
    (hB : ∀ W a cap, Below w.heap.size w W → Row W a R.d.length R.d → Calls Tryz.prog 56 #[.slice (some ⟨g, 0, none⟩) N N, cmV R.k R.i R.s R.z R.n R.q a R.d.length cap R.t R.l R.c R.b R.e R.u R.m R.o] W (BPost W O)) :
    Calls Tryz.prog 42 #[.slice (some ⟨g, 0, none⟩) N N, arr8 y.b0 y.b1 y.b2 y.b3 y.b4 y.b5 y.b6 y.b7] w (CPost w (if O = some y then some R else none)) := by
  obtain ⟨F, HF⟩ : ∃ F, Hid ((if O = some y then some R else none) = F) := ⟨_, rfl⟩
  rw [HF.out]
  have HC : Hid (∀ W, Below w.heap.size w W → Calls Tryz.prog 59 #[.slice (some ⟨g, 0, none⟩) N N, arr8 y.b0 y.b1 y.b2 y.b3 y.b4 y.b5 y.b6 y.b7] W (RPost W R)) := hC
  have HB : Hid (∀ W a cap, Below w.heap.size w W → Row W a R.d.length R.d → Calls Tryz.prog 56 #[.slice (some ⟨g, 0, none⟩) N N, cmV R.k R.i R.s R.z R.n R.q a R.d.length cap R.t R.l R.c R.b R.e R.u R.m R.o] W (BPost W O)) := hB
  clear hC hB
  have HD : Hid (∀ x, O = some x → same8 x.b0 x.b1 x.b2 x.b3 x.b4 x.b5 x.b6 x.b7 y.b0 y.b1 y.b2 y.b3 y.b4 y.b5 y.b6 y.b7 = true → F = some R) := fun x hx hs => by
    rw [same8_iff] at hs; rw [← HF.out, hx, of_decide_eq_true hs, if_pos rfl]
  have HE : Hid (∀ x, O = some x → same8 x.b0 x.b1 x.b2 x.b3 x.b4 x.b5 x.b6 x.b7 y.b0 y.b1 y.b2 y.b3 y.b4 y.b5 y.b6 y.b7 = false → F = none) := fun x hx hs => by
    rw [same8_iff] at hs; rw [← HF.out, hx, if_neg (fun h => by injection h with h; exact of_decide_eq_false hs h)]
  have HG : Hid (O = none → F = none) := fun h => by rw [← HF.out, h]; rfl
  obtain ⟨b0, b1, b2, b3, b4, b5, b6, b7⟩ := y
  dsimp only at HC HD HE ⊢
  have hn8 := neq8
  go_enter Tryz.func42, Tryz.ntmps42
  go_wp2_with fail
  with_reducible refine (HC.out _ (by repeat (first | exact Below.refl _ _ | apply Below.drew | apply Below.al))).mono ?_
  rintro r w1 ⟨a, cap, rfl, ht, hb1⟩
  obtain ⟨k, i, s, z, n, q, d, t, l, c, b, e, u, m, o⟩ := R
  dsimp only at ht HB HD HE ⊢
  obtain ⟨len, HL⟩ : ∃ len, Hid (d.length = len) := ⟨_, rfl⟩
  rw [HL.out] at ht HB ⊢
  have B1 : Hid (Below w.heap.size w w1) := Below.andThen (by repeat (first | exact Below.refl _ _ | apply Below.drew | apply Below.al)) hb1
  have HT : Hid (Told ((w.alloc (.cells (ar8 b0 b1 b2 b3 b4 b5 b6 b7) 23)).alloc (.cells (cmC 0 0 0 false 0 false none 0 0 false false false 0 0 0 0 0) 61)) w1 a len cap d) := ht
  have HX1 : Hid (w1.heap[w.heap.size]? = some (.cells (ar8 b0 b1 b2 b3 b4 b5 b6 b7) 23 (0, 0))) := (hb1.block _ (by first | (simp; done) | (simp; omega))).trans (by repeat (first | exact heap_at _ _ _ (by simp) | rw [heap_drew] | rw [Below.heap_alloc _ _ _ (by first | (simp; done) | (simp; omega))]))
  have HR1 : Hid (w1.heap[w.heap.size + 1]? = some (.cells (cmC 0 0 0 false 0 false none 0 0 false false false 0 0 0 0 0) 61 (0, 0))) := (hb1.block _ (by simp)).trans (by repeat (first | exact heap_at _ _ _ (by simp) | rw [heap_drew] | rw [Below.heap_alloc _ _ _ (by first | (simp; done) | (simp; omega))]))
  clear ht hb1 HC
  go_wp2_with fail
  with_reducible refine (HB.out _ _ _ (Below.al B1.out _) (HT.out.row.next (Below.al (Below.refl _ _) _))).mono ?_
  intro r w3 hbp
  have hb3 : Below (w1.alloc (.cells (cmC k i s z n q a len cap t l c b e u m o) 61)).heap.size (w1.alloc (.cells (cmC k i s z n q a len cap t l c b e u m o) 61)) w3 := by cases O <;> exact hbp.2
  have HX3 : Hid (w3.heap[w.heap.size]? = some (.cells (ar8 b0 b1 b2 b3 b4 b5 b6 b7) 23 (0, 0))) := (hb3.block _ (by simp; have := (Array.getElem?_eq_some_iff.1 HX1.out).1; omega)).trans ((Below.heap_alloc _ _ _ (Array.getElem?_eq_some_iff.1 HX1.out).1).trans HX1.out)
  have HR3 : Hid (w3.heap[w.heap.size + 1]? = some (.cells (cmC 0 0 0 false 0 false none 0 0 false false false 0 0 0 0 0) 61 (0, 0))) := (hb3.block _ (by simp; have := (Array.getElem?_eq_some_iff.1 HR1.out).1; omega)).trans ((Below.heap_alloc _ _ _ (Array.getElem?_eq_some_iff.1 HR1.out).1).trans HR1.out)
  have hc3 : w3.heap[w1.heap.size]? = some (.cells (cmC k i s z n q a len cap t l c b e u m o) 61 (0, 0)) := (hb3.block _ (by simp)).trans (heap_new _ _)
  have B3 : Hid (Below w.heap.size w w3) := Below.andThen (Below.al B1.out _) hb3
  have S1 : Hid (w.heap.size + 1 < w1.heap.size) := (Array.getElem?_eq_some_iff.1 HR1.out).1
  have T3 : Hid (Told ((w.alloc (.cells (ar8 b0 b1 b2 b3 b4 b5 b6 b7) 23)).alloc (.cells (cmC 0 0 0 false 0 false none 0 0 false false false 0 0 0 0 0) 61)) w3 a len cap d) := HT.out.keep (Nat.le_refl _) (fun g hg hl => (hb3.block _ (by simp; omega)).trans (Below.heap_alloc _ _ _ hl))
  have k0 : w3.cell? ⟨w1.heap.size, 0, none⟩ = some (.int .u8 k) := by rw [cell_of_row w3 _ 0 _ _ _ hc3]; rfl
  have k1 : w3.cell? ⟨w1.heap.size, 1, none⟩ = some (.int .u16 i) := by rw [cell_of_row w3 _ 1 _ _ _ hc3]; rfl
  have k2 : w3.cell? ⟨w1.heap.size, 2, none⟩ = some (.int .u8 s) := by rw [cell_of_row w3 _ 2 _ _ _ hc3]; rfl
  have k3 : w3.cell? ⟨w1.heap.size, 3, none⟩ = some (.bool z) := by rw [cell_of_row w3 _ 3 _ _ _ hc3]; rfl
  have k4 : w3.cell? ⟨w1.heap.size, 4, none⟩ = some (.int .u32 n) := by rw [cell_of_row w3 _ 4 _ _ _ hc3]; rfl
  have k5 : w3.cell? ⟨w1.heap.size, 5, none⟩ = some (.bool q) := by rw [cell_of_row w3 _ 5 _ _ _ hc3]; rfl
  have k6 : w3.cell? ⟨w1.heap.size, 6, none⟩ = some (.slice a len cap) := by rw [cell_of_row w3 _ 6 _ _ _ hc3]; rfl
  have k7 : w3.cell? ⟨w1.heap.size, 7, none⟩ = some (.bool t) := by rw [cell_of_row w3 _ 7 _ _ _ hc3]; rfl
  have k8 : w3.cell? ⟨w1.heap.size, 8, none⟩ = some (.bool l) := by rw [cell_of_row w3 _ 8 _ _ _ hc3]; rfl
  have k9 : w3.cell? ⟨w1.heap.size, 9, none⟩ = some (.bool c) := by rw [cell_of_row w3 _ 9 _ _ _ hc3]; rfl
  have k10 : w3.cell? ⟨w1.heap.size, 10, none⟩ = some (.int .i64 b) := by rw [cell_of_row w3 _ 10 _ _ _ hc3]; rfl
  have k11 : w3.cell? ⟨w1.heap.size, 11, none⟩ = some (.int .i64 e) := by rw [cell_of_row w3 _ 11 _ _ _ hc3]; rfl
  have k12 : w3.cell? ⟨w1.heap.size, 12, none⟩ = some (.int .u16 u) := by rw [cell_of_row w3 _ 12 _ _ _ hc3]; rfl
  have k13 : w3.cell? ⟨w1.heap.size, 13, none⟩ = some (.int .i64 m) := by rw [cell_of_row w3 _ 13 _ _ _ hc3]; rfl
  have k14 : w3.cell? ⟨w1.heap.size, 14, none⟩ = some (.int .u32 o) := by rw [cell_of_row w3 _ 14 _ _ _ hc3]; rfl
  have d0 : w3.cell? ⟨w.heap.size, 0, none⟩ = some (.int .u8 b0) := by rw [cell_of_row w3 _ 0 _ _ _ HX3.out]; rfl
  have d1 : w3.cell? ⟨w.heap.size, 1, none⟩ = some (.int .u8 b1) := by rw [cell_of_row w3 _ 1 _ _ _ HX3.out]; rfl
  have d2 : w3.cell? ⟨w.heap.size, 2, none⟩ = some (.int .u8 b2) := by rw [cell_of_row w3 _ 2 _ _ _ HX3.out]; rfl
  have d3 : w3.cell? ⟨w.heap.size, 3, none⟩ = some (.int .u8 b3) := by rw [cell_of_row w3 _ 3 _ _ _ HX3.out]; rfl
  have d4 : w3.cell? ⟨w.heap.size, 4, none⟩ = some (.int .u8 b4) := by rw [cell_of_row w3 _ 4 _ _ _ HX3.out]; rfl
  have d5 : w3.cell? ⟨w.heap.size, 5, none⟩ = some (.int .u8 b5) := by rw [cell_of_row w3 _ 5 _ _ _ HX3.out]; rfl
  have d6 : w3.cell? ⟨w.heap.size, 6, none⟩ = some (.int .u8 b6) := by rw [cell_of_row w3 _ 6 _ _ _ HX3.out]; rfl
  have d7 : w3.cell? ⟨w.heap.size, 7, none⟩ = some (.int .u8 b7) := by rw [cell_of_row w3 _ 7 _ _ _ HX3.out]; rfl
  have szc : w1.heap.size < w3.heap.size := (Array.getElem?_eq_some_iff.1 hc3).1
  have szx : w.heap.size < w3.heap.size := (Array.getElem?_eq_some_iff.1 HX3.out).1
  have szr : w.heap.size + 1 < w3.heap.size := (Array.getElem?_eq_some_iff.1 HR3.out).1
  clear hc3 hb3 HB HT HX1 HR1
  cases O with
  | none =>
    obtain ⟨rfl, _⟩ := hbp
    have HN : Hid (F = none) := HG.out rfl
    have hrs4 : (w3.alloc (.cells (ar8 0 0 0 0 0 0 0 0) 23)).heap[w.heap.size + 1]? = some (.cells (cmC 0 0 0 false 0 false none 0 0 false false false 0 0 0 0 0) 61 (0, 0)) := (Below.heap_alloc _ _ _ szr).trans HR3.out
    go_wp2_with (refine wpList_store_by rfl 61 _ _ rfl _ _ rfl rfl (storeCM (w3.alloc (.cells (ar8 0 0 0 0 0 0 0 0) 23)) (w.heap.size + 1) _ 0 0 0 false 0 false none 0 0 false false false 0 0 0 0 0 _ hrs4 rfl) ?_)
    have hc := fun j => cell_of_row ((w3.alloc (.cells (ar8 0 0 0 0 0 0 0 0) 23)).setRow (w.heap.size + 1) (cmC 0 0 0 false 0 false none 0 0 false false false 0 0 0 0 0)) (w.heap.size + 1) j _ _ _ (setRow_heap _ _ _ _ _ _ hrs4)
    refine bodyPost_ret (v := .tuple #[cmV 0 0 0 false 0 false none 0 0 false false false 0 0 0 0 0, .int .i64 11]) ?_ rfl ?_
    · simp [results, Tryz.results42, go_sem, hc]
    · show CPost w F _ _
      rw [HN.out]
      exact ⟨rfl, below_setRow (Below.al B3.out _) (Nat.le_succ _) _⟩
  | some x =>
    obtain ⟨rfl, _⟩ := hbp
    obtain ⟨x0, x1, x2, x3, x4, x5, x6, x7⟩ := x
    have hdd := HD.out _ rfl
    have hee := HE.out _ rfl
    dsimp only at hdd hee
    cases hs : same8 x0 x1 x2 x3 x4 x5 x6 x7 b0 b1 b2 b3 b4 b5 b6 b7
    · have HN : Hid (F = none) := hee hs
      clear hdd hee HD HE
      have hrs4 : (w3.alloc (.cells (ar8 x0 x1 x2 x3 x4 x5 x6 x7) 23)).heap[w.heap.size + 1]? = some (.cells (cmC 0 0 0 false 0 false none 0 0 false false false 0 0 0 0 0) 61 (0, 0)) := (Below.heap_alloc _ _ _ szr).trans HR3.out
      go_wp2_with (refine wpList_store_by rfl 61 _ _ rfl _ _ rfl rfl (storeCM (w3.alloc (.cells (ar8 x0 x1 x2 x3 x4 x5 x6 x7) 23)) (w.heap.size + 1) _ 0 0 0 false 0 false none 0 0 false false false 0 0 0 0 0 _ hrs4 rfl) ?_)
      have hc := fun j => cell_of_row ((w3.alloc (.cells (ar8 x0 x1 x2 x3 x4 x5 x6 x7) 23)).setRow (w.heap.size + 1) (cmC 0 0 0 false 0 false none 0 0 false false false 0 0 0 0 0)) (w.heap.size + 1) j _ _ _ (setRow_heap _ _ _ _ _ _ hrs4)
      refine bodyPost_ret (v := .tuple #[cmV 0 0 0 false 0 false none 0 0 false false false 0 0 0 0 0, .int .i64 11]) ?_ rfl ?_
      · simp [results, Tryz.results42, go_sem, hc]
      · show CPost w F _ _
        rw [HN.out]
        exact ⟨rfl, below_setRow (Below.al B3.out _) (Nat.le_succ _) _⟩
    · have HN : Hid (F = some _) := hdd hs
      clear hdd hee HD HE
      have hrs4 : (w3.alloc (.cells (ar8 x0 x1 x2 x3 x4 x5 x6 x7) 23)).heap[w.heap.size + 1]? = some (.cells (cmC 0 0 0 false 0 false none 0 0 false false false 0 0 0 0 0) 61 (0, 0)) := (Below.heap_alloc _ _ _ szr).trans HR3.out
      go_wp2_with (refine wpList_store_by rfl 61 _ _ rfl _ _ rfl rfl (storeCM (w3.alloc (.cells (ar8 x0 x1 x2 x3 x4 x5 x6 x7) 23)) (w.heap.size + 1) _ k i s z n q a len cap t l c b e u m o _ hrs4 rfl) ?_)
      have hc := fun j => cell_of_row ((w3.alloc (.cells (ar8 x0 x1 x2 x3 x4 x5 x6 x7) 23)).setRow (w.heap.size + 1) (cmC k i s z n q a len cap t l c b e u m o)) (w.heap.size + 1) j _ _ _ (setRow_heap _ _ _ _ _ _ hrs4)
      refine bodyPost_ret (v := .tuple #[cmV k i s z n q a len cap t l c b e u m o, .int .i64 0]) ?_ rfl ?_
      · simp [results, Tryz.results42, go_sem, hc]
      show CPost w F _ _
      rw [HN.out]
      refine ⟨a, cap, ?_, ?_, below_setRow (Below.al B3.out _) (Nat.le_succ _) _⟩
      · show _ = Ending.returned (.tuple #[cmV _ _ _ _ _ _ _ _ _ _ _ _ _ _ _ _ _, _])
        dsimp only
        rw [HL.out]
      · show Told _ _ _ _ _ _
        dsimp only
        rw [HL.out]
        exact T3.out.keep (by simp; omega) (fun g hg hl => (setRow_other _ _ _ _ (by simp at hg; omega)).trans (Below.heap_alloc _ _ _ hl))
#print axioms commandOf_any
end Go.Proofs.YtimnpdegoehblaaGreatDoor
namespace Go.Proofs.YtimnpdegoehblaaGreatDoor
open Go.RowKit

/-- The command of the bytes, of one side. -/
def askedP (y : B8) : Option Cm := if askP (askR y) = some y then some (askR y) else none
def answeredP (y : B8) : Option Cm := if ansP (ansR y) = some y then some (ansR y) else none
theorem rdBare_ok (x : B8) (ok : x.Ok) (k : Int) (hk : 0 ≤ k ∧ k < 256) : ({ rdBare x.b0 x.b1 x.b2 x.b3 x.b4 x.b5 x.b6 x.b7 with k := k } : Cm).Ok := by
  obtain ⟨⟨_, _⟩, ⟨_, _⟩, ⟨_, _⟩, ⟨_, _⟩, ⟨_, _⟩, ⟨_, _⟩, ⟨_, _⟩, ⟨_, _⟩⟩ := ok
  constructor <;> simp only [rdBare]
  all_goals first | exact hk | exact oct_nil | omega
theorem rdPlace_ok (x : B8) (ok : x.Ok) (k : Int) (hk : 0 ≤ k ∧ k < 256) : ({ rdPlace x.b0 x.b1 x.b2 x.b3 x.b4 x.b5 x.b6 x.b7 with k := k } : Cm).Ok := by
  obtain ⟨⟨_, _⟩, ⟨_, _⟩, ⟨_, _⟩, ⟨_, _⟩, ⟨_, _⟩, ⟨_, _⟩, ⟨_, _⟩, ⟨_, _⟩⟩ := ok
  constructor <;> simp only [rdPlace]
  all_goals first | exact hk | exact oct_nil | omega
theorem rdToggle_ok (x : B8) (ok : x.Ok) (k : Int) (hk : 0 ≤ k ∧ k < 256) : ({ rdToggle x.b0 x.b1 x.b2 x.b3 x.b4 x.b5 x.b6 x.b7 with k := k } : Cm).Ok := by
  obtain ⟨⟨_, _⟩, ⟨_, _⟩, ⟨_, _⟩, ⟨_, _⟩, ⟨_, _⟩, ⟨_, _⟩, ⟨_, _⟩, ⟨_, _⟩⟩ := ok
  constructor <;> simp only [rdToggle]
  all_goals first | exact hk | exact oct_nil | omega
theorem rdAck_ok (x : B8) (ok : x.Ok) (k : Int) (hk : 0 ≤ k ∧ k < 256) : ({ rdAck x.b0 x.b1 x.b2 x.b3 x.b4 x.b5 x.b6 x.b7 with k := k } : Cm).Ok := by
  obtain ⟨⟨_, _⟩, ⟨_, _⟩, ⟨_, _⟩, ⟨_, _⟩, ⟨_, _⟩, ⟨_, _⟩, ⟨_, _⟩, ⟨_, _⟩⟩ := ok
  constructor <;> simp only [rdAck]
  all_goals first | exact hk | exact oct_nil | omega
theorem rdBlock_ok (x : B8) (ok : x.Ok) (k : Int) (hk : 0 ≤ k ∧ k < 256) : ({ rdBlock x.b0 x.b1 x.b2 x.b3 x.b4 x.b5 x.b6 x.b7 with k := k } : Cm).Ok := by
  obtain ⟨⟨_, _⟩, ⟨_, _⟩, ⟨_, _⟩, ⟨_, _⟩, ⟨_, _⟩, ⟨_, _⟩, ⟨_, _⟩, ⟨_, _⟩⟩ := ok
  constructor <;> simp only [rdBlock]
  all_goals first | exact hk | exact oct_nil | omega
theorem rdStop_ok (x : B8) (ok : x.Ok) (k : Int) (hk : 0 ≤ k ∧ k < 256) : ({ rdStop x.b0 x.b1 x.b2 x.b3 x.b4 x.b5 x.b6 x.b7 with k := k } : Cm).Ok := by
  obtain ⟨⟨_, _⟩, ⟨_, _⟩, ⟨_, _⟩, ⟨_, _⟩, ⟨_, _⟩, ⟨_, _⟩, ⟨_, _⟩, ⟨_, _⟩⟩ := ok
  constructor <;> simp only [rdStop]
  all_goals first | exact hk | exact oct_nil | omega
theorem rdEnd_ok (x : B8) (ok : x.Ok) (k : Int) (hk : 0 ≤ k ∧ k < 256) : ({ rdEnd x.b0 x.b1 x.b2 x.b3 x.b4 x.b5 x.b6 x.b7 with k := k } : Cm).Ok := by
  obtain ⟨⟨_, _⟩, ⟨_, _⟩, ⟨_, _⟩, ⟨_, _⟩, ⟨_, _⟩, ⟨_, _⟩, ⟨_, _⟩, ⟨_, _⟩⟩ := ok
  have h9 := and8 (x.b0 / 4) 7 (by omega) (by omega)
  constructor <;> simp only [rdEnd]
  all_goals first | exact hk | exact oct_nil | omega
theorem rdSize_ok (x : B8) (ok : x.Ok) (k : Int) (hk : 0 ≤ k ∧ k < 256) : ({ rdSize x.b0 x.b1 x.b2 x.b3 x.b4 x.b5 x.b6 x.b7 with k := k } : Cm).Ok := by
  obtain ⟨⟨_, _⟩, ⟨_, _⟩, ⟨_, _⟩, ⟨_, _⟩, ⟨_, _⟩, ⟨_, _⟩, ⟨_, _⟩, ⟨_, _⟩⟩ := ok
  constructor <;> simp only [rdSize]
  all_goals first | exact hk | exact oct_nil | omega | (split <;> omega)
theorem rdBegin_ok (x : B8) (ok : x.Ok) (k : Int) (hk : 0 ≤ k ∧ k < 256) : ({ rdBegin x.b0 x.b1 x.b2 x.b3 x.b4 x.b5 x.b6 x.b7 with k := k } : Cm).Ok := by
  obtain ⟨⟨_, _⟩, ⟨_, _⟩, ⟨_, _⟩, ⟨_, _⟩, ⟨_, _⟩, ⟨_, _⟩, ⟨_, _⟩, ⟨_, _⟩⟩ := ok
  constructor <;> simp only [rdBegin]
  all_goals first | exact hk | exact oct_nil | omega | (split <;> omega) | (split <;> (try split) <;> omega) | (split; exact Oct.take (fun n hn => by simp only [List.mem_cons, List.not_mem_nil, or_false] at hn; omega) _; exact oct_nil)
theorem rdPart_ok (x : B8) (ok : x.Ok) (k : Int) (hk : 0 ≤ k ∧ k < 256) : ({ rdPart x.b0 x.b1 x.b2 x.b3 x.b4 x.b5 x.b6 x.b7 with k := k } : Cm).Ok := by
  obtain ⟨⟨_, _⟩, ⟨_, _⟩, ⟨_, _⟩, ⟨_, _⟩, ⟨_, _⟩, ⟨_, _⟩, ⟨_, _⟩, ⟨_, _⟩⟩ := ok
  constructor <;> simp only [rdPart]
  all_goals first | exact hk | exact oct_nil | omega | exact Oct.take (fun n hn => by simp only [List.mem_cons, List.not_mem_nil, or_false] at hn; omega) _
theorem askR_ok (x : B8) (ok : x.Ok) : (askR x).Ok := by
  unfold askR
  by_cases h0 : bits .andNot .u8 x.b0 15 = 32
  · rw [if_pos h0]; exact rdBegin_ok x ok 1 (by decide)
  rw [if_neg h0]
  by_cases h1 : bits .andNot .u8 x.b0 31 = 0
  · rw [if_pos h1]; exact rdPart_ok x ok 2 (by decide)
  rw [if_neg h1]
  by_cases h2 : bits .andNot .u8 x.b0 0 = 64
  · rw [if_pos h2]; exact rdPlace_ok x ok 3 (by decide)
  rw [if_neg h2]
  by_cases h3 : bits .andNot .u8 x.b0 16 = 96
  · rw [if_pos h3]; exact rdToggle_ok x ok 4 (by decide)
  rw [if_neg h3]
  by_cases h4 : bits .andNot .u8 x.b0 0 = 128
  · rw [if_pos h4]; exact rdStop_ok x ok 5 (by decide)
  rw [if_neg h4]
  by_cases h5 : bits .andNot .u8 x.b0 6 = 192
  · rw [if_pos h5]; exact rdSize_ok x ok 6 (by decide)
  rw [if_neg h5]
  by_cases h6 : bits .andNot .u8 x.b0 28 = 193
  · rw [if_pos h6]; exact rdEnd_ok x ok 7 (by decide)
  rw [if_neg h6]
  by_cases h7 : bits .andNot .u8 x.b0 4 = 160
  · rw [if_pos h7]; exact rdBlock_ok x ok 8 (by decide)
  rw [if_neg h7]
  by_cases h8 : bits .andNot .u8 x.b0 0 = 163
  · rw [if_pos h8]; exact rdBare_ok x ok 9 (by decide)
  rw [if_neg h8]
  by_cases h9 : bits .andNot .u8 x.b0 0 = 162
  · rw [if_pos h9]; exact rdAck_ok x ok 10 (by decide)
  rw [if_neg h9]
  by_cases h10 : bits .andNot .u8 x.b0 0 = 161
  · rw [if_pos h10]; exact rdBare_ok x ok 11 (by decide)
  rw [if_neg h10]
  exact rdBare_ok x ok 0 (by decide)
theorem ansR_ok (x : B8) (ok : x.Ok) : (ansR x).Ok := by
  unfold ansR
  by_cases h0 : bits .andNot .u8 x.b0 0 = 96
  · rw [if_pos h0]; exact rdPlace_ok x ok 1 (by decide)
  rw [if_neg h0]
  by_cases h1 : bits .andNot .u8 x.b0 16 = 32
  · rw [if_pos h1]; exact rdToggle_ok x ok 2 (by decide)
  rw [if_neg h1]
  by_cases h2 : bits .andNot .u8 x.b0 15 = 64
  · rw [if_pos h2]; exact rdBegin_ok x ok 3 (by decide)
  rw [if_neg h2]
  by_cases h3 : bits .andNot .u8 x.b0 31 = 0
  · rw [if_pos h3]; exact rdPart_ok x ok 4 (by decide)
  rw [if_neg h3]
  by_cases h4 : bits .andNot .u8 x.b0 0 = 128
  · rw [if_pos h4]; exact rdStop_ok x ok 5 (by decide)
  rw [if_neg h4]
  by_cases h5 : bits .andNot .u8 x.b0 4 = 160
  · rw [if_pos h5]; exact rdBlock_ok x ok 6 (by decide)
  rw [if_neg h5]
  by_cases h6 : bits .andNot .u8 x.b0 0 = 162
  · rw [if_pos h6]; exact rdAck_ok x ok 10 (by decide)
  rw [if_neg h6]
  by_cases h7 : bits .andNot .u8 x.b0 0 = 161
  · rw [if_pos h7]; exact rdBare_ok x ok 7 (by decide)
  rw [if_neg h7]
  by_cases h8 : bits .andNot .u8 x.b0 6 = 192
  · rw [if_pos h8]; exact rdSize_ok x ok 8 (by decide)
  rw [if_neg h8]
  by_cases h9 : bits .andNot .u8 x.b0 28 = 193
  · rw [if_pos h9]; exact rdEnd_ok x ok 11 (by decide)
  rw [if_neg h9]
  exact rdBare_ok x ok 0 (by decide)
#print axioms askR_ok

set_option linter.unusedSimpArgs false in
set_option maxHeartbeats 4000000 in
set_option maxRecDepth 100000 in
theorem asked_any (y : B8) (ok : y.Ok) (w : World) :
    Calls Tryz.prog 24 #[arr8 y.b0 y.b1 y.b2 y.b3 y.b4 y.b5 y.b6 y.b7] w (CPost w (askedP y)) := by
  have HB : Hid (∀ (W : World) (g : Nat), g = W.heap.size → Calls Tryz.prog 42 #[.slice (some ⟨g, 0, none⟩) 11 11, arr8 y.b0 y.b1 y.b2 y.b3 y.b4 y.b5 y.b6 y.b7] (W.alloc (.cells (askT.flatMap Ln.c).toArray 105)) (CPost (W.alloc (.cells (askT.flatMap Ln.c).toArray 105)) (askedP y))) := fun W g hg => by
    subst hg
    exact commandOf_any W.heap.size 11 y (askR y) (askP (askR y)) _ (fun W' hb => askC_any _ y ok _ ((IsT.new W askT).next hb)) (fun W' a cap hb hr => askB_any _ (askR y) (askR_ok y ok) a cap W' ((IsT.new W askT).next hb) hr)
  generalize askedP y = R at HB ⊢
  generalize hT : (.cells (askT.flatMap Ln.c).toArray 105 : Obj) = TT at HB
  have HA : Hid (∀ W, Calls Tryz.prog 43 #[] W fun e w' => e = .returned (.slice (some ⟨W.heap.size, 0, none⟩) 11 11) ∧ w' = W.alloc TT) := fun W => by rw [← hT]; exact asks_any W
  clear hT ok
  obtain ⟨b0, b1, b2, b3, b4, b5, b6, b7⟩ := y
  dsimp only at HB ⊢
  have HS0 : Hid (Below w.heap.size w ((w.alloc (.cells (ar8 b0 b1 b2 b3 b4 b5 b6 b7) 23)).alloc (.cells (cmC 0 0 0 false 0 false none 0 0 false false false 0 0 0 0 0) 61)) ∧ ((w.alloc (.cells (ar8 b0 b1 b2 b3 b4 b5 b6 b7) 23)).alloc (.cells (cmC 0 0 0 false 0 false none 0 0 false false false 0 0 0 0 0) 61)).heap[w.heap.size]? = some (.cells (ar8 b0 b1 b2 b3 b4 b5 b6 b7) 23 (0, 0)) ∧ ((w.alloc (.cells (ar8 b0 b1 b2 b3 b4 b5 b6 b7) 23)).alloc (.cells (cmC 0 0 0 false 0 false none 0 0 false false false 0 0 0 0 0) 61)).heap[w.heap.size + 1]? = some (.cells (cmC 0 0 0 false 0 false none 0 0 false false false 0 0 0 0 0) 61 (0, 0))) := ⟨(by repeat (first | exact Below.refl _ _ | apply Below.drew | apply Below.al)), (by repeat (first | exact heap_at _ _ _ (by simp) | rw [heap_drew] | rw [Below.heap_alloc _ _ _ (by first | (simp; done) | (simp; omega))])), (by repeat (first | exact heap_at _ _ _ (by simp) | rw [heap_drew] | rw [Below.heap_alloc _ _ _ (by first | (simp; done) | (simp; omega))]))⟩
  cases R with
  | none =>
    go_enter Tryz.func24, Tryz.ntmps24
    go_wp2_with fail
    refine wp_region_held_drew (S := fun x => Below w.heap.size w x ∧ x.heap[w.heap.size]? = some (.cells (ar8 b0 b1 b2 b3 b4 b5 b6 b7) 23 (0, 0)) ∧ ∃ C : Array Value, C.size = 15 ∧ x.heap[w.heap.size + 1]? = some (.cells C 61 (0, 0))) (by kernel_rfl) (⟨Below.drew HS0.out.1, HS0.out.2.1, _, rfl, HS0.out.2.2⟩) (fun hHeld => ?_)
    refine tk 1 (arr8 b0 b1 b2 b3 b4 b5 b6 b7) rfl (.inl ⟨by rfl, ?_⟩) ?_
    · intro w9 hSw
      try dsimp only at hSw
      obtain ⟨_, hbx, _⟩ := hSw
      exact ex_load 23 (.tmp 1) rfl _ _ rfl (load8 _ _ _ _ _ _ _ _ _ _ _ hbx)
    try simp only [Act.put, gA, gS, gZ, sA, sZ, sS]
    refine wpAnyH_ready (rs := [0]) (by kernel_rfl) (by simp) ?_
    refine AllReadyH.cons rfl (fun K' hK => ?_) AllReadyH.nil
    rw [if_pos (by rfl)]
    simp only [gA, gS, gZ]
    go_wp2_with fail
    refine (HA.out _).mono ?_
    rintro r w1 ⟨rfl, rfl⟩
    try go_wp2_with fail
    refine hK.out _ _ (⟨Below.al (Below.drew HS0.out.1) _, (Below.heap_alloc _ _ _ (by first | (simp; done) | (simp; omega))).trans HS0.out.2.1, _, rfl, (Below.heap_alloc _ _ _ (by simp)).trans HS0.out.2.2⟩) (fun hHeld => ?_)
    clear hK K'
    try simp only [Act.put, gA, gS, gZ, sA, sZ, sS]
    refine wpAnyH_ready (rs := [2]) (by kernel_rfl) (by simp) ?_
    refine AllReadyH.cons rfl (fun K' hK => ?_) AllReadyH.nil
    rw [if_pos (by rfl)]
    simp only [gA, gS, gZ]
    go_wp2_with fail
    refine (HB.out (((w.alloc (.cells (ar8 b0 b1 b2 b3 b4 b5 b6 b7) 23)).alloc (.cells (cmC 0 0 0 false 0 false none 0 0 false false false 0 0 0 0 0) 61))).drew _ (by simp)).mono ?_
    rintro r w2 ⟨rfl, hb⟩
    have B2 : Hid (Below w.heap.size w w2) := Below.andThen (Below.al (Below.drew HS0.out.1) _) hb
    have g1 : Hid (w2.heap[w.heap.size]? = some (.cells (ar8 b0 b1 b2 b3 b4 b5 b6 b7) 23 (0, 0))) := (hb.block _ (by first | (simp; done) | (simp; omega))).trans ((Below.heap_alloc _ _ _ (by first | (simp; done) | (simp; omega))).trans HS0.out.2.1)
    have g2 : Hid (w2.heap[w.heap.size + 1]? = some (.cells (cmC 0 0 0 false 0 false none 0 0 false false false 0 0 0 0 0) 61 (0, 0))) := (hb.block _ (by first | (simp; done) | (simp; omega))).trans ((Below.heap_alloc _ _ _ (by simp)).trans HS0.out.2.2)
    clear hb
    try go_wp2_with fail
    refine hK.out _ _ (⟨B2.out, g1.out, _, rfl, g2.out⟩) (fun hHeld => ?_)
    clear hK K'
    try simp only [Act.put, gA, gS, gZ, sA, sZ, sS]
    refine tk 3 (cmV 0 0 0 false 0 false none 0 0 false false false 0 0 0 0 0) rfl (.inl ⟨by rfl, ?_⟩) ?_
    · intro w9 hSw
      try dsimp only at hSw
      go_simp
      all_goals try decide
      all_goals try assumption
      all_goals try omega
    try simp only [Act.put, gA, gS, gZ, sA, sZ, sS]
    refine tk 4 (.int .i64 11) rfl (.inl ⟨by rfl, ?_⟩) ?_
    · intro w9 hSw
      try dsimp only at hSw
      go_simp
      all_goals try decide
      all_goals try assumption
      all_goals try omega
    try simp only [Act.put, gA, gS, gZ, sA, sZ, sS]
    refine wpAnyH_ready (rs := [5]) (by kernel_rfl) (by simp) ?_
    refine AllReadyH.cons rfl (fun K' hK => ?_) AllReadyH.nil
    rw [if_pos (by rfl)]
    simp only [gA, gS, gZ]
    refine wp_store_by 61 (.tmp 2) (.tmp 7) rfl _ _ rfl rfl (storeCM _ _ _ 0 0 0 false 0 false none 0 0 false false false 0 0 0 0 0 _ g2.out rfl) ?_
    refine hK.out _ _ (⟨below_setRow B2.out (Nat.le_succ _) _, (setRow_other _ _ _ _ (by omega)).trans g1.out, _, rfl, setRow_heap _ _ _ _ _ _ g2.out⟩) (fun hHeld => ?_)
    clear hK K'
    try simp only [Act.put, gA, gS, gZ, sA, sZ, sS]
    refine tk 6 (.int .i64 11) rfl (.inl ⟨by rfl, ?_⟩) ?_
    · intro w9 hSw
      try dsimp only at hSw
      go_simp
      all_goals try decide
      all_goals try assumption
      all_goals try omega
    try simp only [Act.put, gA, gS, gZ, sA, sZ, sS]
    refine wpAnyH_done (by kernel_rfl) ?_ _
    go_wp2_with fail
    have hc := fun j => cell_of_row (w2.setRow (w.heap.size + 1) (cmC 0 0 0 false 0 false none 0 0 false false false 0 0 0 0 0)) (w.heap.size + 1) j _ _ _ (setRow_heap _ _ _ _ _ _ g2.out)
    refine bodyPost_ret (v := .tuple #[cmV 0 0 0 false 0 false none 0 0 false false false 0 0 0 0 0, .int .i64 11]) ?_ rfl ?_
    · simp [results, Tryz.results24, go_sem, hc]
    · exact ⟨rfl, below_setRow B2.out (Nat.le_succ _) _⟩
  | some x =>
    obtain ⟨k, i, s, z, n, q, d, t, l, c, b, e, u, m, o⟩ := x
    go_enter Tryz.func24, Tryz.ntmps24
    go_wp2_with fail
    refine wp_region_held_drew (S := fun x => Below w.heap.size w x ∧ x.heap[w.heap.size]? = some (.cells (ar8 b0 b1 b2 b3 b4 b5 b6 b7) 23 (0, 0)) ∧ ∃ C : Array Value, C.size = 15 ∧ x.heap[w.heap.size + 1]? = some (.cells C 61 (0, 0))) (by kernel_rfl) (⟨Below.drew HS0.out.1, HS0.out.2.1, _, rfl, HS0.out.2.2⟩) (fun hHeld => ?_)
    refine tk 1 (arr8 b0 b1 b2 b3 b4 b5 b6 b7) rfl (.inl ⟨by rfl, ?_⟩) ?_
    · intro w9 hSw
      try dsimp only at hSw
      obtain ⟨_, hbx, _⟩ := hSw
      exact ex_load 23 (.tmp 1) rfl _ _ rfl (load8 _ _ _ _ _ _ _ _ _ _ _ hbx)
    try simp only [Act.put, gA, gS, gZ, sA, sZ, sS]
    refine wpAnyH_ready (rs := [0]) (by kernel_rfl) (by simp) ?_
    refine AllReadyH.cons rfl (fun K' hK => ?_) AllReadyH.nil
    rw [if_pos (by rfl)]
    simp only [gA, gS, gZ]
    go_wp2_with fail
    refine (HA.out _).mono ?_
    rintro r w1 ⟨rfl, rfl⟩
    try go_wp2_with fail
    refine hK.out _ _ (⟨Below.al (Below.drew HS0.out.1) _, (Below.heap_alloc _ _ _ (by first | (simp; done) | (simp; omega))).trans HS0.out.2.1, _, rfl, (Below.heap_alloc _ _ _ (by simp)).trans HS0.out.2.2⟩) (fun hHeld => ?_)
    clear hK K'
    try simp only [Act.put, gA, gS, gZ, sA, sZ, sS]
    refine wpAnyH_ready (rs := [2]) (by kernel_rfl) (by simp) ?_
    refine AllReadyH.cons rfl (fun K' hK => ?_) AllReadyH.nil
    rw [if_pos (by rfl)]
    simp only [gA, gS, gZ]
    go_wp2_with fail
    refine (HB.out (((w.alloc (.cells (ar8 b0 b1 b2 b3 b4 b5 b6 b7) 23)).alloc (.cells (cmC 0 0 0 false 0 false none 0 0 false false false 0 0 0 0 0) 61))).drew _ (by simp)).mono ?_
    rintro r w2 ⟨a, cap, rfl, ht, hb⟩
    have B2 : Hid (Below w.heap.size w w2) := Below.andThen (Below.al (Below.drew HS0.out.1) _) hb
    have g1 : Hid (w2.heap[w.heap.size]? = some (.cells (ar8 b0 b1 b2 b3 b4 b5 b6 b7) 23 (0, 0))) := (hb.block _ (by first | (simp; done) | (simp; omega))).trans ((Below.heap_alloc _ _ _ (by first | (simp; done) | (simp; omega))).trans HS0.out.2.1)
    have g2 : Hid (w2.heap[w.heap.size + 1]? = some (.cells (cmC 0 0 0 false 0 false none 0 0 false false false 0 0 0 0 0) 61 (0, 0))) := (hb.block _ (by first | (simp; done) | (simp; omega))).trans ((Below.heap_alloc _ _ _ (by simp)).trans HS0.out.2.2)
    dsimp only at ht ⊢
    obtain ⟨len, HL⟩ : ∃ len, Hid (d.length = len) := ⟨_, rfl⟩
    rw [HL.out] at ht ⊢
    have HT : Hid (Told w (w2.setRow (w.heap.size + 1) (cmC k i s z n q a len cap t l c b e u m o)) a len cap d) := ht.other (by simp; omega) (fun g hg => setRow_other _ _ _ _ (by simp at hg; omega))
    clear ht
    clear hb
    try go_wp2_with fail
    refine hK.out _ _ (⟨B2.out, g1.out, _, rfl, g2.out⟩) (fun hHeld => ?_)
    clear hK K'
    try simp only [Act.put, gA, gS, gZ, sA, sZ, sS]
    refine tk 3 (cmV k i s z n q a len cap t l c b e u m o) rfl (.inl ⟨by rfl, ?_⟩) ?_
    · intro w9 hSw
      try dsimp only at hSw
      go_simp
      all_goals try decide
      all_goals try assumption
      all_goals try omega
    try simp only [Act.put, gA, gS, gZ, sA, sZ, sS]
    refine tk 4 (.int .i64 0) rfl (.inl ⟨by rfl, ?_⟩) ?_
    · intro w9 hSw
      try dsimp only at hSw
      go_simp
      all_goals try decide
      all_goals try assumption
      all_goals try omega
    try simp only [Act.put, gA, gS, gZ, sA, sZ, sS]
    refine wpAnyH_ready (rs := [5]) (by kernel_rfl) (by simp) ?_
    refine AllReadyH.cons rfl (fun K' hK => ?_) AllReadyH.nil
    rw [if_pos (by rfl)]
    simp only [gA, gS, gZ]
    refine wp_store_by 61 (.tmp 2) (.tmp 7) rfl _ _ rfl rfl (storeCM _ _ _ k i s z n q a len cap t l c b e u m o _ g2.out rfl) ?_
    refine hK.out _ _ (⟨below_setRow B2.out (Nat.le_succ _) _, (setRow_other _ _ _ _ (by omega)).trans g1.out, _, rfl, setRow_heap _ _ _ _ _ _ g2.out⟩) (fun hHeld => ?_)
    clear hK K'
    try simp only [Act.put, gA, gS, gZ, sA, sZ, sS]
    refine tk 6 (.int .i64 0) rfl (.inl ⟨by rfl, ?_⟩) ?_
    · intro w9 hSw
      try dsimp only at hSw
      go_simp
      all_goals try decide
      all_goals try assumption
      all_goals try omega
    try simp only [Act.put, gA, gS, gZ, sA, sZ, sS]
    refine wpAnyH_done (by kernel_rfl) ?_ _
    go_wp2_with fail
    have hc := fun j => cell_of_row (w2.setRow (w.heap.size + 1) (cmC k i s z n q a len cap t l c b e u m o)) (w.heap.size + 1) j _ _ _ (setRow_heap _ _ _ _ _ _ g2.out)
    refine bodyPost_ret (v := .tuple #[cmV k i s z n q a len cap t l c b e u m o, .int .i64 0]) ?_ rfl ?_
    · simp [results, Tryz.results24, go_sem, hc]
    · refine ⟨a, cap, ?_, ?_, below_setRow B2.out (Nat.le_succ _) _⟩
      · show _ = Ending.returned (.tuple #[cmV _ _ _ _ _ _ _ _ _ _ _ _ _ _ _ _ _, _])
        dsimp only
        rw [HL.out]
      · show Told _ _ _ _ _ _
        dsimp only
        rw [HL.out]
        exact HT.out
#print axioms asked_any


end Go.Proofs.YtimnpdegoehblaaGreatDoor
