/-
  The walk of fill.
-/
import Derived.Test.YtgpbmccjcjoijaaJr
namespace Go.Proofs.Ytgpbmccjcjoijaa
open Go.RowKit

/-- The groups that stay, written one behind the other. -/
def fillG (n first k : Nat) : List Gp → Nat → Nat → FS → Int × Nat × FS
  | [], _, en, s => (0, en, s)
  | g :: gs, i, en, s => if g.stays = true then (if (addP n first k true en ⟨2, (i : Int), g.bs⟩ s).1 = 0 then fillG n first k gs (i + 1) (addP n first k true en ⟨2, (i : Int), g.bs⟩ s).2.1 (addP n first k true en ⟨2, (i : Int), g.bs⟩ s).2.2 else addP n first k true en ⟨2, (i : Int), g.bs⟩ s) else fillG n first k gs (i + 1) en s
/-- A region filled: what is answered, where the next record is to stand, the flash. -/
def fillP (n first k : Nat) (num : Int) (all : List Gp) (s : FS) : Int × Nat × FS :=
  if (regE n first k 0 s).1 ≠ 0 then ((regE n first k 0 s).1, 0, (regE n first k 0 s).2)
  else if (fillG n first k all 0 16 (regE n first k 0 s).2).1 ≠ 0 then fillG n first k all 0 16 (regE n first k 0 s).2
  else ((regW n first (enc ⟨1, 0, [num]⟩) 0 (fillG n first k all 0 16 (regE n first k 0 s).2).2.2).1, (fillG n first k all 0 16 (regE n first k 0 s).2).2.1, (regW n first (enc ⟨1, 0, [num]⟩) 0 (fillG n first k all 0 16 (regE n first k 0 s).2).2.2).2)
theorem fillP_e {n first k : Nat} {num : Int} {all : List Gp} {s t : FS} {E : Int} (h : regE n first k 0 s = (E, t)) (hE : E ≠ 0) : fillP n first k num all s = (E, 0, t) := by unfold fillP; rw [h, if_pos hE]
theorem fillP_g {n first k : Nat} {num : Int} {all : List Gp} {s t u : FS} {E : Int} {m : Nat} (h : regE n first k 0 s = (0, t)) (hg : fillG n first k all 0 16 t = (E, m, u)) (hE : E ≠ 0) : fillP n first k num all s = (E, m, u) := by unfold fillP; rw [h, if_neg (fun h => h rfl), hg, if_pos hE]
theorem fillP_w {n first k : Nat} {num : Int} {all : List Gp} {s t u v : FS} {E : Int} {m : Nat} (h : regE n first k 0 s = (0, t)) (hg : fillG n first k all 0 16 t = (0, m, u)) (hw : regW n first (enc ⟨1, 0, [num]⟩) 0 u = (E, v)) : fillP n first k num all s = (E, m, v) := by
  unfold fillP
  rw [h, if_neg (fun h => h rfl), hg, if_neg (fun h => h rfl)]
  dsimp only
  rw [hw]
theorem addP_le {n first k en : Nat} {r : Rec} {s : FS} {m : Nat} (h : s.Le m) (hl : r.bs.length ≤ 4096) : (addP n first k true en r s).2.2.Le (m + 4112) := by
  have hw := regW_le n first _ (enc r) en s m (Nat.le_refl _) h
  have h2 := rm_lt r.bs.length
  have h3 := enc_len r
  unfold addP
  split
  · exact h.more (by omega)
  · split <;> exact hw.more (by omega)
theorem addP_en {n first k en : Nat} {r : Rec} {s : FS} (h4 : en % 4 = 0) (hen : en ≤ 1024 * k) : (addP n first k true en r s).2.1 % 4 = 0 ∧ (addP n first k true en r s).2.1 ≤ 1024 * k := by
  have h2 := rm_four r.bs.length
  unfold addP
  split
  · exact ⟨h4, hen⟩
  · rename_i hc
    split
    · refine ⟨?_, ?_⟩
      · show (en + rm r.bs.length) % 4 = 0; omega
      · show en + rm r.bs.length ≤ 1024 * k
        by_cases hh : en + rm r.bs.length ≤ 1024 * k
        · exact hh
        · exact absurd (.inr (by omega)) hc
    · exact ⟨h4, hen⟩
abbrev zero6 : Array Value := #[.pointer none, .int .i64 0, .int .i64 0, .bool false, .int .u8 0, .int .i64 0]
theorem store64z {W : World} {g : Nat} (h : W.heap[g]? = some (.cells zero6 64 (0, 0))) : (storeVar 64 ⟨g, 0, none⟩ (.agg zero6)).run Try.prog W = .ok () W := by
  have := store_part 64 6 size64 W g 0 zero6 _ h [.pointer none, .int .i64 0, .int .i64 0, .bool false, .int .u8 0, .int .i64 0] rfl (by simp) (fun v hv => by simp only [List.mem_cons, List.not_mem_nil, or_false] at hv; rcases hv with rfl | rfl | rfl | rfl | rfl | rfl <;> rfl)
  have e := setRow_self W g _ _ _ h
  rw [show (.agg zero6 : Value) = .agg [Value.pointer none, .int .i64 0, .int .i64 0, .bool false, .int .u8 0, .int .i64 0].toArray from rfl, this]
  congr 1
theorem load62h {W : World} {hB p first k : Nat} {bg : Bool} {num : Int} {en : Nat} (h : W.heap[hB]? = some (.cells (half6 p first k bg num en).toArray 64 (0, 0))) : (loadVar 62 ⟨hB, 0, none⟩).run Try.prog W = .ok (.agg #[.pointer (some ⟨p, 0, none⟩), .int .i64 (first : Int), .int .i64 (k : Int)]) W := by
  have := load_part 62 3 size62 agg62 W hB 0 (half6 p first k bg num en) _ h (by simp)
  rw [this]
  rfl
theorem fillG_skip {n first k i en : Nat} {all : List Gp} {s : FS} (hi : i < all.length) (h : all[i].stays = false) : fillG n first k (all.drop i) i en s = fillG n first k (all.drop (i + 1)) (i + 1) en s := by
  rw [List.drop_eq_getElem_cons hi, fillG, if_neg (by rw [h]; decide)]
theorem fillG_go {n first k i en : Nat} {all : List Gp} {s t : FS} {e2 : Nat} (hi : i < all.length) (h : all[i].stays = true) (ha : addP n first k true en ⟨2, (i : Int), all[i].bs⟩ s = (0, e2, t)) : fillG n first k (all.drop i) i en s = fillG n first k (all.drop (i + 1)) (i + 1) e2 t := by
  rw [List.drop_eq_getElem_cons hi, fillG, if_pos h, ha, if_pos rfl]
theorem fillG_stop {n first k i en : Nat} {all : List Gp} {s t : FS} {E : Int} {e2 : Nat} (hi : i < all.length) (h : all[i].stays = true) (ha : addP n first k true en ⟨2, (i : Int), all[i].bs⟩ s = (E, e2, t)) (hE : E ≠ 0) : fillG n first k (all.drop i) i en s = (E, e2, t) := by
  rw [List.drop_eq_getElem_cons hi, fillG, if_pos h, ha, if_neg hE]
theorem IsG.fresh {w : World} {S : List Nat} {all : List Gp} {ss : List SL} (h : IsG w S all ss) (x : Nat) (hx : w.heap.size ≤ x) : IsG w (x :: S) all ss := ⟨h.n1, h.n2, fun i g s h1 h2 => by
  obtain ⟨r, l, b⟩ := h.row i g s h1 h2
  refine ⟨r, l, fun hp bl off e hm => ?_⟩
  rcases List.mem_cons.1 hm with rfl | hm
  · have := r.old hp _ off e; omega
  · exact b hp bl off e hm⟩
/-- What fill leaves. -/
def FillPost (w : World) (p B n cap first k : Nat) (num : Int) (R : Int × Nat × FS) (e : Ending) (w' : World) : Prop :=
  (∃ (hp : Option Addr) (hf hk : Int) (hb : Bool) (hn he : Int), e = .returned (.tuple #[.agg #[.pointer hp, .int .i64 hf, .int .i64 hk, .bool hb, .int .u8 hn, .int .i64 he], .int .i64 R.1]) ∧ (R.1 = 0 → hp = some ⟨p, 0, none⟩ ∧ hf = first ∧ hk = k ∧ hb = true ∧ hn = num ∧ he = R.2.1)) ∧ IsS w' p B n cap R.2.2 ∧ Kp [p, B] w w'

set_option linter.unusedSimpArgs false in
set_option maxHeartbeats 8000000 in
set_option maxRecDepth 100000 in
theorem fill_any {w : World} {p B n cap : Nat} {s : FS} (hF : IsS w p B n cap s) (m : Nat) (hm : s.Le m) (hm2 : m ≤ 800000000) (first k : Nat) (hk : 1 ≤ k) (hfk : first + k ≤ n) (num : Int) (hnum : 0 ≤ num ∧ num < 256) (S : List Nat) (hpS : p ∈ S) (hBS : B ∈ S) (all : List Gp) (ss : List SL) (hG : IsG w S all ss) :
    Calls Try.prog 67 #[.agg #[.pointer (some ⟨p, 0, none⟩), .int .i64 (first : Int), .int .i64 (k : Int)], .int .u8 num, .agg (gflat all ss).toArray] w fun e w' => FillPost w p B n cap first k num (fillP n first k num all s) e w' := by
  have hn2 := hF.n2
  have h0 := hF.lt
  have h1 := hG.n1
  have h2 := hG.n2
  have gk : (k : Int) ≤ 64 := by omega
  have IX : Hid (∀ (i : Nat) (hi : i < 16) (W : World), (Instr.index 68 (.agg (gflat all ss).toArray) (.int .i64 (i : Int))).run Try.prog W = .ok (.agg #[.bool (all[i]'(by omega)).there, .bool (all[i]'(by omega)).marked, .slice (ss[i]'(by omega)).1 (all[i]'(by omega)).bs.length (ss[i]'(by omega)).2]) W) := fun i hi W => idx68 all ss h1 h2 i _ _ (by simp [h1, hi]) (by simp [h2, hi]) W
  have LG : Hid (∀ W gb, GB W gb all ss → (loadVar 68 ⟨gb, 0, none⟩).run Try.prog W = .ok (.agg (gflat all ss).toArray) W) := fun W gb h => load68 h1 h2 h
  obtain ⟨C, hC⟩ : ∃ C, Hid ((gflat all ss).toArray = C) := ⟨_, rfl⟩
  rw [hC.out]
  rw [hC.out] at IX LG
  have OK1 : (⟨1, 0, [num]⟩ : Rec).Ok := ⟨by show (0 : Int) ≤ 1; decide, by show (1 : Int) < 256; decide, by show (0 : Int) ≤ 0; decide, by show (0 : Int) < 16; decide, (fun x hx => by rw [List.mem_singleton] at hx; rw [hx]; exact hnum), by simp⟩
  have bX : Below w.heap.size w ((((w.alloc (.cells #[.pointer (some ⟨p, 0, none⟩), .int .i64 (first : Int), .int .i64 (k : Int)] 62)).alloc (.cells C 68)).alloc (.cells #[.pointer none, .int .i64 0, .int .i64 0, .bool false, .int .u8 0, .int .i64 0] 64)).alloc (.cells #[.int .u8 num] 5)) := Below.al (Below.al (Below.al (Below.al (Below.refl _ _) _) _) _) _
  have x0 : ((((w.alloc (.cells #[.pointer (some ⟨p, 0, none⟩), .int .i64 (first : Int), .int .i64 (k : Int)] 62)).alloc (.cells C 68)).alloc (.cells #[.pointer none, .int .i64 0, .int .i64 0, .bool false, .int .u8 0, .int .i64 0] 64)).alloc (.cells #[.int .u8 num] 5)).heap[w.heap.size]? = some (.cells #[.pointer (some ⟨p, 0, none⟩), .int .i64 (first : Int), .int .i64 (k : Int)] 62 (0, 0)) := by
    rw [Below.heap_alloc _ _ _ (by simp only [World.size_alloc]; omega), Below.heap_alloc _ _ _ (by simp only [World.size_alloc]; omega), Below.heap_alloc _ _ _ (by simp)]; exact heap_alloc_new w _
  have x1 : ((((w.alloc (.cells #[.pointer (some ⟨p, 0, none⟩), .int .i64 (first : Int), .int .i64 (k : Int)] 62)).alloc (.cells C 68)).alloc (.cells #[.pointer none, .int .i64 0, .int .i64 0, .bool false, .int .u8 0, .int .i64 0] 64)).alloc (.cells #[.int .u8 num] 5)).heap[w.heap.size + 1]? = some (.cells C 68 (0, 0)) := by
    rw [Below.heap_alloc _ _ _ (by simp only [World.size_alloc]; omega), Below.heap_alloc _ _ _ (by simp)]
    have := heap_alloc_new (w.alloc (.cells #[.pointer (some ⟨p, 0, none⟩), .int .i64 (first : Int), .int .i64 (k : Int)] 62)) (.cells C 68)
    rwa [World.size_alloc] at this
  have x2 : ((((w.alloc (.cells #[.pointer (some ⟨p, 0, none⟩), .int .i64 (first : Int), .int .i64 (k : Int)] 62)).alloc (.cells C 68)).alloc (.cells #[.pointer none, .int .i64 0, .int .i64 0, .bool false, .int .u8 0, .int .i64 0] 64)).alloc (.cells #[.int .u8 num] 5)).heap[w.heap.size + 1 + 1]? = some (.cells #[.pointer none, .int .i64 0, .int .i64 0, .bool false, .int .u8 0, .int .i64 0] 64 (0, 0)) := by
    rw [Below.heap_alloc _ _ _ (by simp)]
    have := heap_alloc_new ((w.alloc (.cells #[.pointer (some ⟨p, 0, none⟩), .int .i64 (first : Int), .int .i64 (k : Int)] 62)).alloc (.cells C 68)) (.cells #[.pointer none, .int .i64 0, .int .i64 0, .bool false, .int .u8 0, .int .i64 0] 64)
    rwa [World.size_alloc, World.size_alloc] at this
  have x3 : Row ((((w.alloc (.cells #[.pointer (some ⟨p, 0, none⟩), .int .i64 (first : Int), .int .i64 (k : Int)] 62)).alloc (.cells C 68)).alloc (.cells #[.pointer none, .int .i64 0, .int .i64 0, .bool false, .int .u8 0, .int .i64 0] 64)).alloc (.cells #[.int .u8 num] 5)) (some ⟨w.heap.size + 1 + 1 + 1, 0, none⟩) 1 [num] := by
    have := row_lit (((w.alloc (.cells #[.pointer (some ⟨p, 0, none⟩), .int .i64 (first : Int), .int .i64 (k : Int)] 62)).alloc (.cells C 68)).alloc (.cells #[.pointer none, .int .i64 0, .int .i64 0, .bool false, .int .u8 0, .int .i64 0] 64)) #[.int .u8 num] 5 [num] 1 rfl OK1.oct rfl
    rwa [World.size_alloc, World.size_alloc, World.size_alloc] at this
  have EN := encoded_any 1 0 [num] OK1 (some ⟨w.heap.size + 1 + 1 + 1, 0, none⟩) 1 1 ((((w.alloc (.cells #[.pointer (some ⟨p, 0, none⟩), .int .i64 (first : Int), .int .i64 (k : Int)] 62)).alloc (.cells C 68)).alloc (.cells #[.pointer none, .int .i64 0, .int .i64 0, .bool false, .int .u8 0, .int .i64 0] 64)).alloc (.cells #[.int .u8 num] 5)) x3
  have hFX := hF.next bX
  have hGX := hG.next bX
  have HGF : Hid (∀ x, w.heap.size ≤ x → IsG w (x :: S) all ss) := fun x hx => hG.fresh x hx
  go_enter Try.func67, Try.ntmps67
  go_wp2_with fail
  have sX : ((((w.alloc (.cells #[.pointer (some ⟨p, 0, none⟩), .int .i64 (first : Int), .int .i64 (k : Int)] 62)).alloc (.cells C 68)).alloc (.cells #[.pointer none, .int .i64 0, .int .i64 0, .bool false, .int .u8 0, .int .i64 0] 64)).alloc (.cells #[.int .u8 num] 5)).heap.size = w.heap.size + 4 := by simp
  generalize ((((w.alloc (.cells #[.pointer (some ⟨p, 0, none⟩), .int .i64 (first : Int), .int .i64 (k : Int)] 62)).alloc (.cells C 68)).alloc (.cells #[.pointer none, .int .i64 0, .int .i64 0, .bool false, .int .u8 0, .int .i64 0] 64)).alloc (.cells #[.int .u8 num] 5)) = X at *
  generalize hz0 : w.heap.size = z at *
  have HZ0 : Hid (w.heap.size = z) := hz0
  clear hz0 hF hG x3
  with_reducible refine EN.mono ?_
  rintro e Y ⟨⟨g, rfl, hg, hBk⟩, bY⟩
  clear EN
  have y0 := (bY.block _ (lt_of_heap x0)).trans x0
  have y1 := (bY.block _ (lt_of_heap x1)).trans x1
  have y2 := (bY.block _ (lt_of_heap x2)).trans x2
  have KY1 : Kp [] Y (Y.alloc (.cells #[.pointer (some ⟨p, 0, none⟩), .int .i64 (first : Int), .int .i64 (k : Int), .bool true, .int .u8 num, .int .i64 16] 64)) := (Kp.refl [] Y).al _
  have KXY : Kp [] X (Y.alloc (.cells #[.pointer (some ⟨p, 0, none⟩), .int .i64 (first : Int), .int .i64 (k : Int), .bool true, .int .u8 num, .int .i64 16] 64)) := (Kp.of bY).trans KY1
  have q0 := (KY1.block _ (lt_of_heap y0) (by simp)).trans y0
  have q1 := (KY1.block _ (lt_of_heap y1) (by simp)).trans y1
  have q2 := (KY1.block _ (lt_of_heap y2) (by simp)).trans y2
  have qb : Bk (Y.alloc (.cells #[.pointer (some ⟨p, 0, none⟩), .int .i64 (first : Int), .int .i64 (k : Int), .bool true, .int .u8 num, .int .i64 16] 64)) g (enc ⟨1, 0, [num]⟩) := (KY1.block _ hBk.lt (by simp)).trans hBk
  have qh : (Y.alloc (.cells #[.pointer (some ⟨p, 0, none⟩), .int .i64 (first : Int), .int .i64 (k : Int), .bool true, .int .u8 num, .int .i64 16] 64)).heap[Y.heap.size]? = some (.cells (half6 p first k true num 16).toArray 64 (0, 0)) := heap_alloc_new Y _
  have hFY := hFX.next KXY.bel
  have hGY := hGX.next KXY.bel
  have gY := hBk.lt
  have sY : z + 4 ≤ Y.heap.size := by have := bY.size; omega
  have ER := rerase_any hFY m hm (by omega) first k hfk
  have bwY : Kp [] w (Y.alloc (.cells #[.pointer (some ⟨p, 0, none⟩), .int .i64 (first : Int), .int .i64 (k : Int), .bool true, .int .u8 num, .int .i64 16] 64)) := (Kp.of (by rw [HZ0.out]; exact bX)).trans KXY
  have c0 : Y.cell? ⟨z, 0, none⟩ = some (.pointer (some ⟨p, 0, none⟩)) := by rw [cell_of_row Y _ _ _ _ _ y0]; rfl
  have c1 : Y.cell? ⟨z, 1, none⟩ = some (.int .i64 (first : Int)) := by rw [cell_of_row Y _ _ _ _ _ y0]; rfl
  have c2 : Y.cell? ⟨z, 2, none⟩ = some (.int .i64 (k : Int)) := by rw [cell_of_row Y _ _ _ _ _ y0]; rfl
  have eR : rm 1 = 16 := by decide
  rw [eR]
  clear x0 x1 x2 y0 y1 y2 hBk bY bX hFX hGX KXY KY1 hFY eR
  go_wp2_with fail
  generalize (Y.alloc (.cells #[.pointer (some ⟨p, 0, none⟩), .int .i64 (first : Int), .int .i64 (k : Int), .bool true, .int .u8 num, .int .i64 16] 64)) = Y1 at *
  generalize hhb : Y.heap.size = hb at *
  clear hhb c0 c1 c2
  obtain ⟨E0, t0, ht0⟩ : ∃ E t, Hid (regE n first k 0 s = (E, t)) := ⟨_, _, rfl⟩
  rw [ht0.out] at ER
  with_reducible refine ER.mono ?_
  rintro e V ⟨rfl, hV, hKV⟩
  clear ER
  have np : ∀ x, z ≤ x → x ∉ [p, B] := fun x hx => by simp; omega
  have v0 := (hKV.block _ (lt_of_heap q0) (np _ (by omega))).trans q0
  have v1 := (hKV.block _ (lt_of_heap q1) (np _ (by omega))).trans q1
  have v2 := (hKV.block _ (lt_of_heap q2) (np _ (by omega))).trans q2
  have vb : Bk V g (enc ⟨1, 0, [num]⟩) := (hKV.block _ qb.lt (np _ (by omega))).trans qb
  have vh := (hKV.block _ (lt_of_heap qh) (np _ (by omega))).trans qh
  have wV : Kp [p, B] w V := (bwY.more (by simp)).trans hKV
  have vG := (HGF.out hb (by omega)).kp wV (fun x hx => by simp at hx; rcases hx with rfl | rfl <;> simp [hpS, hBS])
  have LE1 : t0.Le (m + k) := by have := regE_le n first k 0 s m hm; rw [ht0.out] at this; exact this
  have HV : Hid (IsS V p B n cap t0) := hV
  have HwV : Hid (Kp [p, B] w V) := wV
  have HG0 : Hid (V.heap[z + 1]? = some (.cells C 68 (0, 0))) := v1
  have d0 : V.cell? ⟨z + 1 + 1, 0, none⟩ = some (.pointer none) := by rw [cell_of_row V _ _ _ _ _ v2]; rfl
  have d1 : V.cell? ⟨z + 1 + 1, 1, none⟩ = some (.int .i64 0) := by rw [cell_of_row V _ _ _ _ _ v2]; rfl
  have d2 : V.cell? ⟨z + 1 + 1, 2, none⟩ = some (.int .i64 0) := by rw [cell_of_row V _ _ _ _ _ v2]; rfl
  have d3 : V.cell? ⟨z + 1 + 1, 3, none⟩ = some (.bool false) := by rw [cell_of_row V _ _ _ _ _ v2]; rfl
  have d4 : V.cell? ⟨z + 1 + 1, 4, none⟩ = some (.int .u8 0) := by rw [cell_of_row V _ _ _ _ _ v2]; rfl
  have d5 : V.cell? ⟨z + 1 + 1, 5, none⟩ = some (.int .i64 0) := by rw [cell_of_row V _ _ _ _ _ v2]; rfl
  have fz := fun j => frozen_of_row V (z + 1 + 1) j _ _ v2
  have HF : Hid (∀ j, V.frozen? ⟨z + 1 + 1, j, none⟩ = false) := fz
  clear hKV hV wV q0 q1 q2 qb qh hGY bwY
  have SZ := store64z v2
  by_cases hE0 : E0 = 0
  · subst hE0
    have LDG := LG.out V (z + 1) (by rw [GB, hC.out]; exact v1)
    obtain ⟨G, hG⟩ : ∃ G, Hid (fillG n first k all 0 16 t0 = G) := ⟨_, rfl⟩
    have HNP : Hid (∀ x, z ≤ x → x ∉ [p, B]) := np
    have INI : Hid (∃ (i en : Nat) (t : FS), i ≤ 16 ∧ Value.int .i64 0 = .int .i64 (i : Int) ∧ IsS V p B n cap t ∧ fillG n first k (all.drop i) i en t = G ∧ t.Le (m + k + 4112 * i) ∧ en % 4 = 0 ∧ en ≤ 1024 * k ∧ Kp [p, B] w V ∧ V.heap[hb]? = some (.cells (half6 p first k true num en).toArray 64 (0, 0)) ∧ V.heap[z + 1 + 1]? = some (.cells zero6 64 (0, 0)) ∧ Bk V g (enc ⟨1, 0, [num]⟩) ∧ IsG V (hb :: S) all ss) := ⟨0, 16, t0, by omega, rfl, HV.out, hG.out, LE1.more (by omega), by omega, by omega, HwV.out, vh, v2, vb, vG⟩
    clear v0 v1 v2 vb vh vG fz d0 d1 d2 d3 d4 d5 HF HG0 SZ
    go_wp2_with (refine wpList_load_by rfl 68 (.tmp 5) rfl _ _ rfl LDG ?_)
    clear LDG
    go_loopw [31] (fun u wr => ∃ (i en : Nat) (t : FS), i ≤ 16 ∧ u = .int .i64 (i : Int) ∧ IsS wr p B n cap t ∧ fillG n first k (all.drop i) i en t = G ∧ t.Le (m + k + 4112 * i) ∧ en % 4 = 0 ∧ en ≤ 1024 * k ∧ Kp [p, B] w wr ∧ wr.heap[hb]? = some (.cells (half6 p first k true num en).toArray 64 (0, 0)) ∧ wr.heap[z + 1 + 1]? = some (.cells zero6 64 (0, 0)) ∧ Bk wr g (enc ⟨1, 0, [num]⟩) ∧ IsG wr (hb :: S) all ss) (fun u _ => 16 - (intOf u).toNat)
    case atStart => exact INI.out
    case round =>
      clear INI
      obtain ⟨i, en, t, hi, rfl, hT, hGi, hLe, he4, hek, hKw, r5, r2, rb, rG⟩ := hrel
      have HGi : Hid (fillG n first k (all.drop i) i en t = G) := hGi
      have HT : Hid (IsS wr p B n cap t) := hT
      have HK : Hid (Kp [p, B] w wr) := hKw
      have HR5 : Hid (wr.heap[hb]? = some (.cells (half6 p first k true num en).toArray 64 (0, 0))) := r5
      have HR2 : Hid (wr.heap[z + 1 + 1]? = some (.cells zero6 64 (0, 0))) := r2
      have HRB : Hid (Bk wr g (enc ⟨1, 0, [num]⟩)) := rb
      have HRG : Hid (IsG wr (hb :: S) all ss) := rG
      clear hGi hT hKw r5 r2 rb rG
      by_cases hlt : i < 16
      · have g1 : (i : Int) < 16 := by omega
        have IXi := IX.out i hlt
        have RG := HRG.out.row i (all[i]'(by omega)) (ss[i]'(by omega)) (by simp [h1, hlt]) (by simp [h2, hlt])
        have SKIP : Hid ((all[i]'(by omega)).stays = false → fillG n first k (all.drop (i + 1)) (i + 1) en t = G) := fun h => by rw [← HGi.out]; exact (fillG_skip (by omega) h).symm
        have GO : Hid (∀ e2 t', (all[i]'(by omega)).stays = true → addP n first k true en ⟨2, (i : Int), (all[i]'(by omega)).bs⟩ t = (0, e2, t') → fillG n first k (all.drop (i + 1)) (i + 1) e2 t' = G) := fun e2 t' h ha => by rw [← HGi.out]; exact (fillG_go (by omega) h ha).symm
        have STOP : Hid (∀ E e2 t', (all[i]'(by omega)).stays = true → addP n first k true en ⟨2, (i : Int), (all[i]'(by omega)).bs⟩ t = (E, e2, t') → E ≠ 0 → G = (E, e2, t')) := fun E e2 t' h ha hE => by rw [← HGi.out]; exact fillG_stop (by omega) h ha hE
        generalize (all[i]'(by omega)) = gg at *
        generalize (ss[i]'(by omega)) = sl at *
        obtain ⟨th, mk, bs⟩ := gg
        dsimp only at IXi RG SKIP GO STOP
        have ST := fun W => stays_any th mk (.slice sl.1 bs.length sl.2) W
        have ES : Hid ((⟨th, mk, bs⟩ : Gp).stays = (th && !mk)) := rfl
        by_cases hs : (th && !mk) = true
        · rw [hs] at ST
          clear SKIP
          go_wp2_with fail
          with_reducible refine (ST _).mono ?_
          rintro e Z ⟨rfl, hbZ⟩
          clear ST
          have bwZ : Below wr.heap.size wr Z := (Below.al (Below.refl _ _) _).trans (hbZ.mono (by simp))
          have zF := HT.out.next bwZ
          have z5 := (bwZ.block _ (lt_of_heap HR5.out)).trans HR5.out
          have cz : Z.cell? ⟨wr.heap.size, 2, none⟩ = some (.slice sl.1 bs.length sl.2) := by
            rw [hbZ.cell (p := ⟨wr.heap.size, 2, none⟩) (by simp)]; simp [go_sem]
          have rk : (⟨2, (i : Int), bs⟩ : Rec).Ok := ⟨by show (0 : Int) ≤ 2; decide, by show (2 : Int) < 256; decide, by show (0 : Int) ≤ i; omega, by show (i : Int) < 16; omega, RG.1.oct, RG.2.1⟩
          have np : ∀ x, z ≤ x → x ∉ [p, B] := HNP.out
          have nh1 := np hb (by omega)
          simp only [List.mem_cons, List.not_mem_nil, or_false, not_or] at nh1
          have AD := add_any zF (m + k + 4112 * i) hLe (by omega) hb first k en true nh1.1 nh1.2 (by rw [cell_of_row Z _ _ _ _ _ z5]; rfl) (by rw [cell_of_row Z _ _ _ _ _ z5]; rfl) (by rw [cell_of_row Z _ _ _ _ _ z5]; rfl) (by rw [cell_of_row Z _ _ _ _ _ z5]; rfl) (by rw [cell_of_row Z _ _ _ _ _ z5]; rfl) (frozen_of_row Z hb 5 _ _ z5) hfk hek (fun _ => he4) ⟨2, (i : Int), bs⟩ rk sl.1 bs.length sl.2 (RG.1.next bwZ)
          have AL := addP_le (n := n) (first := first) (k := k) (en := en) (r := ⟨2, (i : Int), bs⟩) hLe RG.2.1
          have AE := addP_en (n := n) (first := first) (k := k) (r := ⟨2, (i : Int), bs⟩) (s := t) he4 hek
          obtain ⟨E, e2, t', ha⟩ : ∃ E e2 t', Hid (addP n first k true en ⟨2, (i : Int), bs⟩ t = (E, e2, t')) := ⟨_, _, _, rfl⟩
          rw [ha.out] at AD AL AE
          have gW : IntKind.u8.wrap (i : Int) = i := by simp [IntKind.wrap, IntKind.bits, IntKind.signed]; omega
          have kwZ : Hid (Kp [p, B] w Z) := HK.out.trans (Kp.of bwZ)
          have z2 := (bwZ.block _ (lt_of_heap HR2.out)).trans HR2.out
          have zb : Bk Z g (enc ⟨1, 0, [num]⟩) := (bwZ.block _ HRB.out.lt).trans HRB.out
          have zG := HRG.out.next bwZ
          have Hz5 : Hid (Z.heap[hb]? = some (.cells (half6 p first k true num en).toArray 64 (0, 0))) := z5
          have Hz2 : Hid (Z.heap[z + 1 + 1]? = some (.cells zero6 64 (0, 0))) := z2
          clear zF rk bwZ hbZ z5 z2
          go_wp2_with fail
          with_reducible refine AD.mono ?_
          rintro e U ⟨w1, rfl, hF1, hK1, hU⟩
          clear AD
          dsimp only at hF1 hU AL AE
          have u5 := (hK1.block _ (lt_of_heap Hz5.out) (np _ (by omega))).trans Hz5.out
          have u2 := (hK1.block _ (lt_of_heap Hz2.out) (np _ (by omega))).trans Hz2.out
          have ub : Bk w1 g (enc ⟨1, 0, [num]⟩) := (hK1.block _ zb.lt (np _ (by omega))).trans zb
          have uG := zG.kp hK1 (fun x hx => by simp at hx; rcases hx with rfl | rfl <;> simp [hpS, hBS])
          have hK2 := kwZ.out.trans hK1
          by_cases hE : E = 0
          · subst hE
            rw [if_pos rfl] at hU
            have KS : Kp [hb] w1 U := by rw [hU]; exact (Kp.refl _ _).set _ _ (.inl (by simp))
            have FIN : Hid (IsS U p B n cap t' ∧ fillG n first k (all.drop (i + 1)) (i + 1) e2 t' = G ∧ t'.Le (m + k + 4112 * (i + 1)) ∧ e2 % 4 = 0 ∧ e2 ≤ 1024 * k ∧ Kp [p, B] w U ∧ U.heap[hb]? = some (.cells (half6 p first k true num e2).toArray 64 (0, 0)) ∧ U.heap[z + 1 + 1]? = some (.cells zero6 64 (0, 0)) ∧ Bk U g (enc ⟨1, 0, [num]⟩) ∧ IsG U (hb :: S) all ss) := by
              refine ⟨hF1.kp KS (by simp; omega) (by simp; omega), GO.out e2 t' (by rw [ES.out]; exact hs) ha.out, AL.more (by omega), AE.1, AE.2, ?_, ?_, (KS.block _ (lt_of_heap u2) (by simp; omega)).trans u2, (KS.block _ ub.lt (by simp; omega)).trans ub, ?_⟩
              · rw [hU]; exact hK2.set _ _ (.inr (by rw [HZ0.out]; simp; omega))
              · rw [hU, heap_setCell_same w1 hb 5 _ _ _ u5]; rfl
              · exact uG.kp KS (by simp)
            clear hF1 hU u5 u2 ub uG GO STOP
            go_wp2_with fail
            exact ⟨⟨i + 1, e2, t', by omega, by go_num, FIN.out⟩, by simp [intOf]; omega⟩
          · rw [if_neg hE] at hU
            subst hU
            have P0 : Hid (fillP n first k num all s = (E, e2, t')) := fillP_g ht0.out (by rw [hG.out]; exact STOP.out E e2 t' (by rw [ES.out]; exact hs) ha.out hE) hE
            have gE : (E != 0) = true := by simp [hE]
            have HE : Hid (E ≠ 0) := hE
            have HF1 : Hid (IsS U p B n cap t') := hF1
            have HK2 : Hid (Kp [p, B] w U) := hK2
            have d0 : U.cell? ⟨z + 1 + 1, 0, none⟩ = some (.pointer none) := by rw [cell_of_row U _ _ _ _ _ u2]; rfl
            have d1 : U.cell? ⟨z + 1 + 1, 1, none⟩ = some (.int .i64 0) := by rw [cell_of_row U _ _ _ _ _ u2]; rfl
            have d2 : U.cell? ⟨z + 1 + 1, 2, none⟩ = some (.int .i64 0) := by rw [cell_of_row U _ _ _ _ _ u2]; rfl
            have d3 : U.cell? ⟨z + 1 + 1, 3, none⟩ = some (.bool false) := by rw [cell_of_row U _ _ _ _ _ u2]; rfl
            have d4 : U.cell? ⟨z + 1 + 1, 4, none⟩ = some (.int .u8 0) := by rw [cell_of_row U _ _ _ _ _ u2]; rfl
            have d5 : U.cell? ⟨z + 1 + 1, 5, none⟩ = some (.int .i64 0) := by rw [cell_of_row U _ _ _ _ _ u2]; rfl
            have SZ := store64z u2
            clear hF1 hK2 u5 u2 ub uG hE GO STOP
            go_wp2_with (refine wpList_store_by rfl 64 (.tmp 6) (.tmp 46) rfl _ _ rfl rfl SZ ?_)
            refine bodyPost_ret (v := .tuple #[.agg zero6, .int .i64 E]) (by simp [results, Try.results67, go_sem, d0, d1, d2, d3, d4, d5]) rfl ?_
            show FillPost _ _ _ _ _ _ _ _ _ _ _
            rw [P0.out]
            exact ⟨⟨none, 0, 0, false, 0, 0, rfl, fun h => absurd h HE.out⟩, HF1.out, HK2.out⟩
        · have hs' : (th && !mk) = false := by simpa using hs
          have SK := SKIP.out (by rw [ES.out]; exact hs')
          have HSK : Hid (fillG n first k (all.drop (i + 1)) (i + 1) en t = G) := SK
          rw [hs'] at ST
          clear SK SKIP GO STOP
          go_wp2_with fail
          with_reducible refine (ST _).mono ?_
          rintro e Z ⟨rfl, hbZ⟩
          have bwZ : Below wr.heap.size wr Z := (Below.al (Below.refl _ _) _).trans (hbZ.mono (by simp))
          have HBZ : Hid (Below wr.heap.size wr Z) := bwZ
          clear ST bwZ hbZ
          go_wp2_with fail
          exact ⟨⟨i + 1, en, t, by omega, by go_num, HT.out.next HBZ.out, HSK.out, hLe.more (by omega), he4, hek, HK.out.trans (Kp.of HBZ.out), (HBZ.out.block _ (lt_of_heap HR5.out)).trans HR5.out, (HBZ.out.block _ (lt_of_heap HR2.out)).trans HR2.out, (HBZ.out.block _ HRB.out.lt).trans HRB.out, HRG.out.next HBZ.out⟩, by simp [intOf]; omega⟩
      · obtain rfl : i = 16 := by omega
        have eD : all.drop 16 = [] := List.drop_of_length_le (by omega)
        have FG : fillG n first k all 0 16 t0 = (0, en, t) := by rw [hG.out, ← HGi.out, eD]; rfl
        have hz1 := enc_len ⟨1, 0, [num]⟩
        have e16 : rm [num].length = 16 := by simp [rm]
        have RB : Row wr.drew (some ⟨g, 0, none⟩) 16 (enc ⟨1, 0, [num]⟩) := by
          have := HRB.out.row (enc_oct OK1) 0 16 (by rw [hz1]; show 0 + 16 ≤ rm [num].length; omega)
          rw [List.drop_zero, List.take_of_length_le (by rw [hz1]; show rm [num].length ≤ 16; omega)] at this
          exact this.drew
        have CW := rwrite_any (HT.out.keep (w' := wr.drew) rfl rfl) (m + k + 4112 * 16) hLe (by omega) first k 0 (some ⟨g, 0, none⟩) 16 16 (enc ⟨1, 0, [num]⟩) RB (by omega) (Nat.le_refl _) (fun b off e => by cases e; exact HNP.out _ (by omega)) hfk (by omega)
        obtain ⟨E, t', hw⟩ : ∃ E t', Hid (regW n first (enc ⟨1, 0, [num]⟩) 0 t = (E, t')) := ⟨_, _, rfl⟩
        rw [hw.out] at CW
        have P0 : Hid (fillP n first k num all s = (E, en, t')) := fillP_w ht0.out FG hw.out
        have r5 := HR5.out
        have r2 := HR2.out
        have np := HNP.out
        clear FG hz1 e16 RB eD hG ht0 hw IX LG HRG HRB
        go_wp2_with fail
        refine wp_region_held_drew (S := fun x => x.heap[hb]? = some (.cells (half6 p first k true num en).toArray 64 (0, 0))) (by kernel_rfl) (r5) (fun hHeld => ?_)
        refine wpAnyH_take (i := 0) (v := (.agg (half6 p first k true num en).toArray)) rfl (by kernel_rfl) (by kernel_rfl) (by kernel_rfl) (fun _ _ _ h => h) (Or.inl ⟨by rfl, ?_⟩) (by assumption) ?_
        · intro w9 hSw
          try dsimp only at hSw
          exact ex_load 64 (.tmp 9) rfl _ _ rfl (load64 hSw)
        try simp only [Act.put, List.getElem_toArray, List.getElem_cons_succ, List.getElem_cons_zero, List.setIfInBounds_toArray, List.set_cons_zero, List.set_cons_succ]
        refine wpAnyH_take (i := 1) (v := (.pointer (some ⟨hb, 0, none⟩))) rfl (by kernel_rfl) (by kernel_rfl) (by kernel_rfl) (fun _ _ _ h => h) (Or.inl ⟨by rfl, ?_⟩) (by assumption) ?_
        · intro w9 hSw
          try dsimp only at hSw
          go_simp
          all_goals try decide
          all_goals try assumption
          all_goals try omega
        try simp only [Act.put, List.getElem_toArray, List.getElem_cons_succ, List.getElem_cons_zero, List.setIfInBounds_toArray, List.set_cons_zero, List.set_cons_succ]
        refine wpAnyH_take (i := 2) (v := (.agg #[.pointer (some ⟨p, 0, none⟩), .int .i64 (first : Int), .int .i64 (k : Int)])) rfl (by kernel_rfl) (by kernel_rfl) (by kernel_rfl) (fun _ _ _ h => h) (Or.inl ⟨by rfl, ?_⟩) (by assumption) ?_
        · intro w9 hSw
          try dsimp only at hSw
          exact ex_load 62 (.tmp 50) rfl _ _ rfl (load62h hSw)
        try simp only [Act.put, List.getElem_toArray, List.getElem_cons_succ, List.getElem_cons_zero, List.setIfInBounds_toArray, List.set_cons_zero, List.set_cons_succ]
        refine wpAnyH_take (i := 3) (v := (.slice (some ⟨g, 0, none⟩) 16 16)) rfl (by kernel_rfl) (by kernel_rfl) (by kernel_rfl) (fun _ _ _ h => h) (Or.inl ⟨by rfl, ?_⟩) (by assumption) ?_
        · intro w9 hSw
          try dsimp only at hSw
          go_simp
          all_goals try decide
          all_goals try assumption
          all_goals try omega
        try simp only [Act.put, List.getElem_toArray, List.getElem_cons_succ, List.getElem_cons_zero, List.setIfInBounds_toArray, List.set_cons_zero, List.set_cons_succ]
        refine wpAnyH_ready (rs := [4]) (by kernel_rfl) (by simp) ?_
        refine AllReadyH.cons rfl (fun K' hK => ?_) AllReadyH.nil
        rw [if_pos (by rfl)]
        simp only [List.getElem_toArray, List.getElem_cons_succ, List.getElem_cons_zero]
        go_wp2_with fail
        refine (CW).mono ?_
        rintro e U ⟨rfl, hF1, hK1⟩
        have u5 : U.heap[hb]? = _ := (hK1.block _ (lt_of_heap r5) (np _ (by omega))).trans r5
        have u2 : U.heap[z + 1 + 1]? = _ := (hK1.block _ (lt_of_heap r2) (np _ (by omega))).trans r2
        have S2 := store64 (p := p) (first := first) (k := k) (bg := true) (num := num) (en := en) (C := zero6) rfl u2
        try go_wp2_with fail
        refine hK.out _ _ (u5) (fun hHeld => ?_)
        clear hK K'
        try simp only [Act.put, List.getElem_toArray, List.getElem_cons_succ, List.getElem_cons_zero, List.setIfInBounds_toArray, List.set_cons_zero, List.set_cons_succ]
        refine wpAnyH_ready (rs := [5]) (by kernel_rfl) (by simp) ?_
        refine AllReadyH.cons rfl (fun K' hK => ?_) AllReadyH.nil
        rw [if_pos (by rfl)]
        simp only [List.getElem_toArray, List.getElem_cons_succ, List.getElem_cons_zero]
        refine wp_store_by 64 (.tmp 6) (.tmp 49) rfl _ _ rfl rfl S2 ?_
        refine hK.out _ _ (by rw [setRow_other _ _ _ _ (by omega)]; exact u5) (fun hHeld => ?_)
        clear hK K'
        try simp only [Act.put, List.getElem_toArray, List.getElem_cons_succ, List.getElem_cons_zero, List.setIfInBounds_toArray, List.set_cons_zero, List.set_cons_succ]
        refine wpAnyH_take (i := 6) (v := (.int .i64 E)) rfl (by kernel_rfl) (by kernel_rfl) (by kernel_rfl) (fun _ _ _ h => h) (Or.inl ⟨by rfl, ?_⟩) (by assumption) ?_
        · intro w9 hSw
          try dsimp only at hSw
          go_simp
          all_goals try decide
          all_goals try assumption
          all_goals try omega
        try simp only [Act.put, List.getElem_toArray, List.getElem_cons_succ, List.getElem_cons_zero, List.setIfInBounds_toArray, List.set_cons_zero, List.set_cons_succ]
        refine wpAnyH_done (by kernel_rfl) ?_ _
        clear S2 CW r5 r2
        have HF1 : Hid (IsS U p B n cap t') := hF1
        have HKU : Hid (Kp [p, B] w (U.setRow (z + 1 + 1) (half6 p first k true num en).toArray)) := ((HK.out.drew).trans hK1).row _ _ (.inr (by rw [HZ0.out]; omega))
        have KR : Kp [z + 1 + 1] U (U.setRow (z + 1 + 1) (half6 p first k true num en).toArray) := (Kp.refl _ _).row _ _ (.inl (by simp))
        have HF2 : Hid (IsS (U.setRow (z + 1 + 1) (half6 p first k true num en).toArray) p B n cap t') := hF1.kp KR (by simp; omega) (by simp; omega)
        have o2 := setRow_heap U (z + 1 + 1) _ (half6 p first k true num en).toArray _ _ u2
        have L2 := load64 o2
        clear hF1 KR o2 u5 u2
        go_wp2_with fail
        refine bodyPost_ret (v := .tuple #[.agg (half6 p first k true num en).toArray, .int .i64 E]) (by simp [results, Try.results67, asAddr, L2]) rfl ?_
        show FillPost _ _ _ _ _ _ _ _ _ _ _
        rw [P0.out]
        exact ⟨⟨_, _, _, _, _, _, rfl, fun _ => ⟨rfl, rfl, rfl, rfl, rfl, rfl⟩⟩, HF2.out, HKU.out⟩
  · have P0 : Hid (fillP n first k num all s = (E0, 0, t0)) := fillP_e ht0.out hE0
    have gE : (E0 != 0) = true := by simp [hE0]
    have HE : Hid (E0 ≠ 0) := hE0
    clear hE0 v0 v1 v2 vb vh vG fz ht0 HF
    go_wp2_with (refine wpList_store_by rfl 64 (.tmp 6) (.tmp 28) rfl _ _ rfl rfl SZ ?_)
    refine bodyPost_ret (v := .tuple #[.agg zero6, .int .i64 E0]) (by simp [results, Try.results67, go_sem, d0, d1, d2, d3, d4, d5]) rfl ?_
    show FillPost _ _ _ _ _ _ _ _ _ _ _
    rw [P0.out]
    exact ⟨⟨none, 0, 0, false, 0, 0, rfl, fun h => absurd h HE.out⟩, HV.out, HwV.out⟩
#print axioms fill_any
end Go.Proofs.Ytgpbmccjcjoijaa
