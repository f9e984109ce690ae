/-
  The walk of a record's bytes.
-/
import Derived.Test.YtgpbmccjcjoijaaJ3
import Derived.Test.YtgpbmccjcjoijaaJ4
import Derived.Laws.MakeOwn
import Derived.Laws.CopyRow
import Derived.BigRegion
import Derived.BigQuiet
namespace Go.Proofs.Ytgpbmccjcjoijaa
open Go.RowKit

/-- A block of bytes. -/
def Bk (w : World) (g : Nat) (zs : List Int) : Prop := w.heap[g]? = some (.cells (zs.map (Value.int .u8)).toArray 5 (0, 0))
theorem Bk.cell {w : World} {g : Nat} {zs : List Int} (h : Bk w g zs) (j : Nat) (hj : j < zs.length) : w.cell? ⟨g, j, none⟩ = some (.int .u8 (zs.getD j 0)) := by
  rw [cell_of_row w g j _ _ _ h]; simp [List.getD_eq_getElem?_getD, hj]
theorem Bk.fz {w : World} {g : Nat} {zs : List Int} (h : Bk w g zs) (j : Nat) : w.frozen? ⟨g, j, none⟩ = false := frozen_of_row w g j _ _ h
theorem Bk.row {w : World} {g : Nat} {zs : List Int} (h : Bk w g zs) (ho : Oct zs) (o n : Nat) (hn : o + n ≤ zs.length) : Row w (some ⟨g, o, none⟩) n ((zs.drop o).take n) where
  size := by simp; omega
  oct := (ho.drop _).take _
  at_ := fun _ => ⟨g, o, rfl, fun i hi => by
    rw [h.cell (o + i) (by omega)]
    simp [List.getD_eq_getElem?_getD, List.getElem?_drop, hi]⟩
theorem Bk.set {w : World} {g : Nat} {zs : List Int} (h : Bk w g zs) (k : Nat) (x : Int) : Bk (w.setCell ⟨g, k, none⟩ (.int .u8 x)) g (zs.set k x) := by
  unfold Bk
  rw [heap_setCell_same w g k _ _ _ h]
  congr 2
  simp
theorem Bk.lt {w : World} {g : Nat} {zs : List Int} (h : Bk w g zs) : g < w.heap.size := lt_of_heap h
/-- Zeros. -/
def zC (R : Nat) : Array Value := ((List.replicate R (0 : Int)).map (Value.int .u8)).toArray
theorem made_zC (R : Nat) : madeCells (Value.int .u8 0).cells R = zC R := by
  apply Array.ext
  · simp [madeCells, zC]
  · intro i h1 h2
    simp [madeCells, zC, Value.cells, Nat.mod_one]
theorem make8 (R : Nat) (h : R ≤ 16777216) (W : World) : (Instr.makeSlice 33 (.int .i64 (R : Int)) (.int .i64 (R : Int))).run Try.prog W = .ok (.slice (some ⟨W.heap.size, 0, none⟩) R R) (W.alloc (.cells (zC R) 5)) := by
  obtain ⟨i, hi, hz0, hz1, hz2⟩ := info_parts info8
  have := run_makeSlice (P := Try.prog) W 33 5 i (.int .u8 0) Try.underlying33 hi hz0 .i64 .i64 R R (by omega) (by omega) (by rw [hz1]; omega) (by rw [hz2]; omega) (by omega)
  rw [this, Int.toNat_natCast, hz1, Nat.mul_one, made_zC]
theorem bk_zC (W : World) (R : Nat) : Bk (W.alloc (.cells (zC R) 5)) W.heap.size (List.replicate R 0) := heap_alloc_new W _

theorem Row.drew {w : World} {a : Option Addr} {n : Nat} {zs : List Int} (h : Row w a n zs) : Row w.drew a n zs := ⟨h.size, h.oct, h.at_⟩
theorem Bk.over {w : World} {g : Nat} {zs : List Int} (h : Bk w g zs) (o : Nat) (m : List Int) : Bk (w.setRow g ((put zs o m).map (Value.int .u8)).toArray) g (put zs o m) := setRow_heap w g _ _ _ _ h
/-- A copy of bytes. -/
theorem copy8_run {w : World} {g : Nat} {Z : List Int} (hg : Bk w g Z) (ty : TypeId) (o dLen dCap : Nat) (a : Option Addr) (n cap : Nat) (zs : List Int) (hr : Row w a n zs) (hn : n ≤ dLen) (hf : o + n ≤ Z.length) :
    (Builtin.copy_ #[33, 33] ty #[.slice (some ⟨g, o, none⟩) dLen dCap, .slice a n cap]).run Try.prog w = .ok (.int .i64 (n : Int)) (w.setRow g ((put Z o zs).map (Value.int .u8)).toArray) := by
  rcases Nat.eq_zero_or_pos n with h0 | hp
  · subst h0
    have e := hr.nil
    subst e
    have : put Z o [] = Z := by unfold put; simp
    rw [this, setRow_self w g _ _ _ hg]
    exact run_copy_none (P := Try.prog) w 33 33 ty 5 (some ⟨g, o, none⟩) a dLen dCap 0 cap Try.underlying33 info8s (by simp)
  · obtain ⟨b, off, rfl, hc⟩ := hr.at_ hp
    have hz := hr.size
    have := run_copy_row (P := Try.prog) w 33 33 ty 5 g o dLen dCap ⟨b, off, none⟩ n cap _ _ (zs.map (Value.int .u8)) Try.underlying33 info8s hg (by simp [hz, hn]) hr.cells (by simp [hz]; exact hf) (oneU8 _)
    rw [this, put_map]
    unfold put
    rw [List.length_map, hz]
    rfl
/-- A copy of a text's bytes. -/
theorem copyS_run {w : World} {g : Nat} {Z : List Int} (hg : Bk w g Z) (ty : TypeId) (o dCap : Nat) (hf : o + 4 ≤ Z.length) :
    (Builtin.copy_ #[33, 9] ty #[.slice (some ⟨g, o, none⟩) 4 dCap, .string ⟨#[107, 101, 112, 116]⟩]).run Try.prog w = .ok (.int .i64 4) (w.setRow g ((put Z o kept4).map (Value.int .u8)).toArray) := by
  have hst := run_storeCells_at Try.prog g o 5 (kept4.map (Value.int .u8)) 0 _ w hg (by simp [kept4]; omega) (oneU8 _)
  obtain ⟨i, hi, _, hz1, _⟩ := info_parts info8
  rw [put_map]
  have hm : (⟨#[107, 101, 112, 116]⟩ : ByteArray).size.min 4 = 4 := rfl
  simp [kept4] at hst
  simp [Builtin.copy_, run_underlying Try.underlying33, Builtin.lenOf, Builtin.firstCells, sizeOf, typeInfo, hi, goInt, put, kept4, hst, hm]
theorem Oct.set {zs : List Int} (h : Oct zs) (k : Nat) {x : Int} (hx : 0 ≤ x ∧ x < 256) : Oct (zs.set k x) := fun n hn => by
  rcases List.mem_or_eq_of_mem_set hn with h' | rfl
  · exact h n h'
  · exact hx
theorem oct_zero (R : Nat) : Oct (List.replicate R (0 : Int)) := fun n hn => by rw [List.mem_replicate] at hn; omega
theorem set_head (R : Nat) (h : 12 ≤ R) (a b c d : Int) : ((((List.replicate R (0 : Int)).set 0 a).set 1 b).set 2 c).set 3 d = a :: b :: c :: d :: List.replicate (R - 4) 0 := by
  obtain ⟨m, rfl⟩ : ∃ m, R = m + 4 := ⟨R - 4, by omega⟩
  simp [List.replicate_succ]

theorem wp_cp {o : Oper} {a : Act} {w w' : World} {K : Act → World → Prop} {Q : Exit → Act → World → Prop} (x y : Operand) (t1 t2 : TypeId)
    (ho : o.op = .call { callee := .builtin .copy, args := #[x, y], argTypes := #[t1, t2] }) (vx vy v : Value) (hx : a.eval x = vx) (hy : a.eval y = vy)
    (hr : ∀ ty, (Builtin.copy_ #[t1, t2] ty #[vx, vy]).run Try.prog w = .ok v w') (h : K (a.put o.dst v) w') : o.wp Try.prog a w K Q := by
  unfold Oper.wp execOp
  simp only [ho, resolve, invoke, builtin, Sem.run_bind, Sem.run_pure, Result.andThen_ok, List.map_toArray, List.map_cons, List.map_nil, hx, hy, hr]
  exact h
theorem wpList_cp {ops : Array Oper} {rest : List Oper} {o : Oper} {a : Act} {w w' : World} {Q : Exit → Act → World → Prop} (hgd : o.guard = none) (x y : Operand) (t1 t2 : TypeId)
    (ho : o.op = .call { callee := .builtin .copy, args := #[x, y], argTypes := #[t1, t2] }) (vx vy v : Value) (hx : a.eval x = vx) (hy : a.eval y = vy)
    (hr : ∀ ty, (Builtin.copy_ #[t1, t2] ty #[vx, vy]).run Try.prog w = .ok v w') (h : wpList Try.prog ops Q rest (a.put o.dst v) w') : wpList Try.prog ops Q (o :: rest) a w :=
  wpList_plain hgd fun _ hK => wp_cp x y t1 t2 ho vx vy v hx hy hr (hK _ _ h)

theorem put_exact {α : Type} (a m m' c : List α) (o : Nat) (ho : o = a.length) (hm : m'.length = m.length) : put (a ++ (m ++ c)) o m' = a ++ (m' ++ c) := by
  subst ho
  unfold put
  rw [List.take_left, hm, ← List.append_assoc a m c, List.drop_append_of_le_length (by simp), List.drop_of_length_le (by simp), List.nil_append, List.append_assoc]
theorem zero_parts (n : Nat) : List.replicate (rm n) (0 : Int) = [0, 0, 0, 0, 0, 0, 0, 0] ++ (List.replicate n 0 ++ (pad n ++ [0, 0, 0, 0])) := by
  have g := rm_ge n
  have e : ([0, 0, 0, 0, 0, 0, 0, 0] : List Int) = List.replicate 8 0 := rfl
  have f : ([0, 0, 0, 0] : List Int) = List.replicate 4 0 := rfl
  unfold pad
  rw [e, f, List.replicate_append_replicate, List.replicate_append_replicate, List.replicate_append_replicate]
  congr 1
  omega
/-- The bytes, as they are written one behind the other. -/
theorem enc_made (k g : Int) (bs : List Int) (c : Int) (hc : c = chk ⟨k, g, bs⟩) :
    put (put (((((((List.replicate (rm bs.length) (0 : Int)).set 0 k).set 1 g).set 2 ((bs.length : Int) % 256)).set 3 ((bs.length : Int) / 256 % 256)).set 4 (c % 256)).set 5 (c / 256 % 256)) 8 bs) (rm bs.length - 4) kept4 = enc ⟨k, g, bs⟩ := by
  rw [zero_parts]
  simp only [List.cons_append, List.nil_append, List.set_cons_zero, List.set_cons_succ]
  have e1 := put_exact [k, g, (bs.length : Int) % 256, (bs.length : Int) / 256 % 256, c % 256, c / 256 % 256, 0, 0] (List.replicate bs.length 0) bs (pad bs.length ++ [0, 0, 0, 0]) 8 rfl (by simp)
  simp only [List.cons_append, List.nil_append] at e1
  rw [e1]
  have gg := rm_ge bs.length
  have e2 := put_exact ([k, g, (bs.length : Int) % 256, (bs.length : Int) / 256 % 256, c % 256, c / 256 % 256, 0, 0] ++ (bs ++ pad bs.length)) [0, 0, 0, 0] kept4 [] (rm bs.length - 4) (by simp [pad_len]; omega) rfl
  simp only [List.append_assoc, List.cons_append, List.nil_append, List.append_nil] at e2
  rw [e2, hc]
  rfl

set_option linter.unusedSimpArgs false in
set_option maxHeartbeats 4000000 in
set_option maxRecDepth 100000 in
theorem encoded_any (kd gp : Int) (bs : List Int) (hk : (⟨kd, gp, bs⟩ : Rec).Ok) (a : Option Addr) (n cap : Nat) (w : World) (hr : Row w a n bs) :
    Calls Try.prog 65 #[.agg #[.int .u8 kd, .int .u8 gp, .slice a n cap]] w fun e w' => (∃ g, e = .returned (.slice (some ⟨g, 0, none⟩) (rm n) (rm n)) ∧ w.heap.size ≤ g ∧ Bk w' g (enc ⟨kd, gp, bs⟩)) ∧ Below w.heap.size w w' := by
  have hl : bs.length ≤ 4096 := hk.len
  have hn : Hid (bs.length = n) := hr.size
  have hl2 : n ≤ 4096 := by rw [← hn.out]; exact hl
  obtain ⟨R, hR⟩ : ∃ R, Hid (rm n = R) := ⟨_, rfl⟩
  have g1 : 12 ≤ R := by have := rm_ge n; rw [hR.out] at this; omega
  have g2 : R ≤ 4112 := by have := rm_lt n; rw [hR.out] at this; omega
  have g1' : (12 : Int) ≤ R := by omega
  have g2' : (R : Int) ≤ 4112 := by omega
  have HM := make8 R (by omega)
  have hl' : (n : Int) ≤ 4096 := by omega
  have RM := fun W => room_any n (by omega) W
  rw [hR.out] at RM ⊢
  have hbx : Below w.heap.size w ((w.alloc (.cells #[.int .u8 kd, .int .u8 gp, .slice a n cap] 79)).alloc (.cells (zC R) 5)) := Below.al (Below.al (Below.refl _ _) _) _
  have hG : Bk ((w.alloc (.cells #[.int .u8 kd, .int .u8 gp, .slice a n cap] 79)).alloc (.cells (zC R) 5)) (w.heap.size + 1) (List.replicate R 0) := by
    have := bk_zC (w.alloc (.cells #[.int .u8 kd, .int .u8 gp, .slice a n cap] 79)) R
    simpa using this
  have b0 : ((w.alloc (.cells #[.int .u8 kd, .int .u8 gp, .slice a n cap] 79)).alloc (.cells (zC R) 5)).cell? ⟨w.heap.size, 0, none⟩ = some (.int .u8 kd) := by simp [go_sem]
  have b1 : ((w.alloc (.cells #[.int .u8 kd, .int .u8 gp, .slice a n cap] 79)).alloc (.cells (zC R) 5)).cell? ⟨w.heap.size, 1, none⟩ = some (.int .u8 gp) := by simp [go_sem]
  have b2 : ((w.alloc (.cells #[.int .u8 kd, .int .u8 gp, .slice a n cap] 79)).alloc (.cells (zC R) 5)).cell? ⟨w.heap.size, 2, none⟩ = some (.slice a n cap) := by simp [go_sem]
  go_enter Try.func65, Try.ntmps65
  go_wp2_with fail
  with_reducible refine (RM _).mono ?_
  rintro e w1 ⟨rfl, rfl⟩
  clear RM
  go_wp2_with fail
  generalize ((w.alloc (.cells #[.int .u8 kd, .int .u8 gp, .slice a n cap] 79)).alloc (.cells (zC R) 5)) = X at *
  have HR : Hid (Row w a n bs) := hr
  have HB : Hid (Below w.heap.size w X) := hbx
  have c0 := hG.cell 0 (by simp; omega)
  have c1 := hG.cell 1 (by simp; omega)
  have c2 := hG.cell 2 (by simp; omega)
  have c3 := hG.cell 3 (by simp; omega)
  have f0 := hG.fz 0
  have f1 := hG.fz 1
  have f2 := hG.fz 2
  have f3 := hG.fz 3
  have HG : Hid (Bk X (w.heap.size + 1) (List.replicate R 0)) := hG
  clear HM hG hbx hr
  generalize hBX : w.heap.size = bx at *
  have HBX : Hid (w.heap.size = bx) := hBX
  clear hBX
  go_region
  have K4 : Kp [] w ((((X.setCell ⟨bx + 1, 0, none⟩ (.int .u8 kd)).setCell ⟨bx + 1, 1, none⟩ (.int .u8 gp)).setCell ⟨bx + 1, 2, none⟩ (.int .u8 ((n : Int) % 256))).setCell ⟨bx + 1, 3, none⟩ (.int .u8 ((n : Int) / 256))).drew := by
    have B0 := HB.out
    rw [← HBX.out] at B0 ⊢
    exact (((((Kp.of B0).set _ _ (.inr (by simp))).set _ _ (.inr (by simp))).set _ _ (.inr (by simp))).set _ _ (.inr (by simp))).drew
  have G4 : Bk ((((X.setCell ⟨bx + 1, 0, none⟩ (.int .u8 kd)).setCell ⟨bx + 1, 1, none⟩ (.int .u8 gp)).setCell ⟨bx + 1, 2, none⟩ (.int .u8 ((n : Int) % 256))).setCell ⟨bx + 1, 3, none⟩ (.int .u8 ((n : Int) / 256))).drew (bx + 1) (((((List.replicate R (0 : Int)).set 0 kd).set 1 gp).set 2 ((n : Int) % 256)).set 3 ((n : Int) / 256)) := (((HG.out.set 0 kd).set 1 gp).set 2 _).set 3 _
  have d2 : ((((X.setCell ⟨bx + 1, 0, none⟩ (.int .u8 kd)).setCell ⟨bx + 1, 1, none⟩ (.int .u8 gp)).setCell ⟨bx + 1, 2, none⟩ (.int .u8 ((n : Int) % 256))).setCell ⟨bx + 1, 3, none⟩ (.int .u8 ((n : Int) / 256))).drew.cell? ⟨bx, 2, none⟩ = some (.slice a n cap) := by
    rw [← b2]; simp [go_sem]
  generalize ((((X.setCell ⟨bx + 1, 0, none⟩ (.int .u8 kd)).setCell ⟨bx + 1, 1, none⟩ (.int .u8 gp)).setCell ⟨bx + 1, 2, none⟩ (.int .u8 ((n : Int) % 256))).setCell ⟨bx + 1, 3, none⟩ (.int .u8 ((n : Int) / 256))).drew = Y at *
  obtain ⟨Z, hZ⟩ : ∃ Z, Hid (Z = ((((List.replicate R (0 : Int)).set 0 kd).set 1 gp).set 2 ((n : Int) % 256)).set 3 ((n : Int) / 256)) := ⟨_, rfl⟩
  rw [← hZ.out] at G4
  have ZL : Z.length = R := by rw [hZ.out]; simp
  have ZO : Oct Z := by
    rw [hZ.out]
    have a0 : 0 ≤ kd := hk.k0
    have a1 : kd < 256 := hk.k1
    have a2 : 0 ≤ gp := hk.g0
    have a3 : gp < 16 := hk.g1
    exact ((((oct_zero R).set 0 ⟨a0, a1⟩).set 1 ⟨a2, by omega⟩).set 2 (by omega)).set 3 (by omega)
  have Z4 : Z.take 4 = hd4 ⟨kd, gp, bs⟩ := by
    rw [hZ.out, set_head R g1]
    simp [hd4, hn.out]
    omega
  have R1 : Row Y.drew (some ⟨bx + 1, 0, none⟩) 4 (hd4 ⟨kd, gp, bs⟩) := by
    have := G4.row ZO 0 4 (by omega)
    rw [List.drop_zero, Z4] at this
    exact this.drew
  have R2 : Row Y.drew a n bs := (HR.out.next K4.bel).drew
  have C1 := crc_any 0 (by omega) (some ⟨bx + 1, 0, none⟩) 4 R (hd4 ⟨kd, gp, bs⟩) Y.drew R1 (by omega)
  have u1 := crcA_u16 (l := hd4 ⟨kd, gp, bs⟩) R1.oct (s := 0) (by omega)
  have C2 := crc_any (crcA 0 (hd4 ⟨kd, gp, bs⟩)) u1 a n cap bs Y.drew R2 (by omega)
  have u2 := crcA_u16 (l := bs) R2.oct u1
  obtain ⟨q1, hq1⟩ : ∃ q1, Hid (q1 = crcA 0 (hd4 ⟨kd, gp, bs⟩)) := ⟨_, rfl⟩
  rw [← hq1.out] at C1 C2 u1 u2
  obtain ⟨q, hq⟩ : ∃ q, Hid (q = crcA q1 bs) := ⟨_, rfl⟩
  rw [← hq.out] at C2 u2
  obtain ⟨u3, u4⟩ := u2
  have HK : Hid (Kp [] w Y) := K4
  have HGY : Hid (Bk Y (bx + 1) Z) := G4
  clear b0 b1 b2 c0 c1 c2 c3 f0 f1 f2 f3 HG HB K4 G4 R1 R2 Z4 u1
  have g3' : (4 : Int) ≤ R := by omega
  go_wp2_with fail
  go_region_held3 (fun x => x.cell? ⟨bx, 2, none⟩ = some (.slice a n cap)) (go_keep) (first | (go_at_call 71; with_reducible refine C1.mono ?_; rintro e w' ⟨rfl, rfl⟩) | (go_at_call 71; with_reducible refine C2.mono ?_; rintro e w' ⟨rfl, rfl⟩))
  have d2' := d2
  clear C1 C2 d2
  have GY : Bk Y (bx + 1) Z := HGY.out
  have c4 := GY.cell 4 (by omega)
  have f4 := GY.fz 4
  have c5 := GY.cell 5 (by omega)
  have f5 := GY.fz 5
  clear GY
  go_wp2_with fail
  have K6 : Kp [] w ((Y.setCell ⟨bx + 1, 4, none⟩ (.int .u8 (q % 256))).setCell ⟨bx + 1, 5, none⟩ (.int .u8 (q / 256))).drew := by
    have B0 := HK.out
    have e := HBX.out
    exact ((B0.set _ _ (.inr (by simp; omega))).set _ _ (.inr (by simp; omega))).drew
  have G6 : Bk ((Y.setCell ⟨bx + 1, 4, none⟩ (.int .u8 (q % 256))).setCell ⟨bx + 1, 5, none⟩ (.int .u8 (q / 256))).drew (bx + 1) ((Z.set 4 (q % 256)).set 5 (q / 256)) := (HGY.out.set 4 _).set 5 _
  have d2 : ((Y.setCell ⟨bx + 1, 4, none⟩ (.int .u8 (q % 256))).setCell ⟨bx + 1, 5, none⟩ (.int .u8 (q / 256))).drew.cell? ⟨bx, 2, none⟩ = some (.slice a n cap) := by
    rw [← d2']; simp [go_sem]
  generalize ((Y.setCell ⟨bx + 1, 4, none⟩ (.int .u8 (q % 256))).setCell ⟨bx + 1, 5, none⟩ (.int .u8 (q / 256))).drew = V at *
  have e12 : n + 12 ≤ R := by have := rm_ge n; rw [hR.out] at this; exact this
  obtain ⟨Z6, hZ6⟩ : ∃ Z6, Hid (Z6 = (Z.set 4 (q % 256)).set 5 (q / 256)) := ⟨_, rfl⟩
  rw [← hZ6.out] at G6
  have ZL6 : Z6.length = R := by rw [hZ6.out]; simp [ZL]
  have RV : Row V.drew a n bs := (HR.out.next K6.bel).drew
  have G6' : Bk V.drew (bx + 1) Z6 := G6
  have CP := fun ty => copy8_run G6' ty 8 (R - 8) (R - 8) a n cap bs RV (by omega) (by omega)
  have CS : (V.drew.setRow (bx + 1) ((put Z6 8 bs).map (Value.int .u8)).toArray).cell? ⟨bx, 2, none⟩ = some (.slice a n cap) := by
    rw [World.cell?_of_block (w := V.drew) (setRow_other V.drew (bx + 1) bx _ (by omega))]; exact d2
  have G8 : Hid (Bk (V.drew.setRow (bx + 1) ((put Z6 8 bs).map (Value.int .u8)).toArray) (bx + 1) (put Z6 8 bs)) := G6'.over 8 bs
  have K8 : Hid (Kp [] w (V.drew.setRow (bx + 1) ((put Z6 8 bs).map (Value.int .u8)).toArray)) := by
    have e := HBX.out
    exact K6.drew.row _ _ (.inr (by omega))
  have g8 : (8 : Int) ≤ R := by omega
  clear G6 G6' RV K6
  refine wp_region_held_drew (S := fun x => x.cell? ⟨bx, 2, none⟩ = some (.slice a n cap)) (by kernel_rfl) (by exact d2) (fun hHeld => ?_)
  refine wpAnyH_take (i := 0) (v := (.slice (some ⟨bx + 1, 0, none⟩) R R)) rfl (by kernel_rfl) (by kernel_rfl) (by kernel_rfl) (fun _ _ _ h => h) (Or.inl ⟨by rfl, ?_⟩) (by assumption) ?_
  · intro w9 hSw
    try dsimp only at hSw
    go_simp
    all_goals try decide
    all_goals try assumption
    all_goals try omega
  try simp only [Act.put, List.getElem_toArray, List.getElem_cons_succ, List.getElem_cons_zero, List.setIfInBounds_toArray, List.set_cons_zero, List.set_cons_succ]
  refine wpAnyH_take (i := 1) (v := (.slice (some ⟨bx + 1, 8, none⟩) (R - 8) (R - 8))) rfl (by kernel_rfl) (by kernel_rfl) (by kernel_rfl) (fun _ _ _ h => h) (Or.inl ⟨by rfl, ?_⟩) (by assumption) ?_
  · intro w9 hSw
    try dsimp only at hSw
    go_simp
    all_goals try decide
    all_goals try assumption
    all_goals try omega
  try simp only [Act.put, List.getElem_toArray, List.getElem_cons_succ, List.getElem_cons_zero, List.setIfInBounds_toArray, List.set_cons_zero, List.set_cons_succ]
  refine wpAnyH_take (i := 2) (v := (.pointer (some ⟨bx, 2, none⟩))) rfl (by kernel_rfl) (by kernel_rfl) (by kernel_rfl) (fun _ _ _ h => h) (Or.inl ⟨by rfl, ?_⟩) (by assumption) ?_
  · intro w9 hSw
    try dsimp only at hSw
    go_simp
    all_goals try decide
    all_goals try assumption
    all_goals try omega
  try simp only [Act.put, List.getElem_toArray, List.getElem_cons_succ, List.getElem_cons_zero, List.setIfInBounds_toArray, List.set_cons_zero, List.set_cons_succ]
  refine wpAnyH_take (i := 3) (v := (.slice a n cap)) rfl (by kernel_rfl) (by kernel_rfl) (by kernel_rfl) (fun _ _ _ h => h) (Or.inl ⟨by rfl, ?_⟩) (by assumption) ?_
  · intro w9 hSw
    try dsimp only at hSw
    go_simp
    all_goals try decide
    all_goals try assumption
    all_goals try omega
  try simp only [Act.put, List.getElem_toArray, List.getElem_cons_succ, List.getElem_cons_zero, List.setIfInBounds_toArray, List.set_cons_zero, List.set_cons_succ]
  refine wpAnyH_ready (rs := [4]) (by kernel_rfl) (by simp) ?_
  refine AllReadyH.cons rfl (fun K' hK => ?_) AllReadyH.nil
  rw [if_pos (by rfl)]
  simp only [List.getElem_toArray, List.getElem_cons_succ, List.getElem_cons_zero]
  refine wp_cp (.tmp 45) (.tmp 47) 33 33 rfl _ _ _ rfl rfl CP ?_
  refine hK.out _ _ (CS) (fun hHeld => ?_)
  clear hK K'
  try simp only [Act.put, List.getElem_toArray, List.getElem_cons_succ, List.getElem_cons_zero, List.setIfInBounds_toArray, List.set_cons_zero, List.set_cons_succ]
  refine wpAnyH_done (by kernel_rfl) ?_ _
  generalize V.drew.setRow (bx + 1) ((put Z6 8 bs).map (Value.int .u8)).toArray = U at *
  clear CP CS d2 d2'
  have g4' : (4 : Int) ≤ R := by omega
  have L8 : (put Z6 8 bs).length = R := by
    have e := hn.out
    rw [put_len _ _ _ (by omega)]; exact ZL6
  have CQ : (Builtin.copy_ #[33, 9] 3 #[.slice (some ⟨bx + 1, R - 4, none⟩) (R - (R - 4)) (R - (R - 4)), .string ⟨#[107, 101, 112, 116]⟩]).run Try.prog U = .ok (.int .i64 4) (U.setRow (bx + 1) ((put (put Z6 8 bs) (R - 4) kept4).map (Value.int .u8)).toArray) := by
    have := copyS_run G8.out 3 (R - 4) 4 (by omega)
    rw [show R - (R - 4) = 4 from by omega]
    exact this
  have FIN : Hid ((∃ g, Ending.returned (.slice (some ⟨bx + 1, 0, none⟩) R R) = .returned (.slice (some ⟨g, 0, none⟩) R R) ∧ w.heap.size ≤ g ∧ Bk (U.setRow (bx + 1) ((put (put Z6 8 bs) (R - 4) kept4).map (Value.int .u8)).toArray) g (enc ⟨kd, gp, bs⟩)) ∧ Below w.heap.size w (U.setRow (bx + 1) ((put (put Z6 8 bs) (R - 4) kept4).map (Value.int .u8)).toArray)) := by
    have e := HBX.out
    refine ⟨⟨_, rfl, by omega, ?_⟩, (K8.out.row _ _ (.inr (by omega))).bel⟩
    have EM := enc_made kd gp bs q (by rw [hq.out, hq1.out]; rfl)
    rw [hn.out, hR.out, show (n : Int) / 256 % 256 = (n : Int) / 256 from by omega, show q / 256 % 256 = q / 256 from by omega, ← hZ.out, ← hZ6.out] at EM
    rw [← EM]
    exact G8.out.over _ _
  go_wp2_with fail
  go_ret
  exact FIN.out
#print axioms encoded_any
end Go.Proofs.Ytgpbmccjcjoijaa
