/-
  Slices that are made: the walks of Zero and bytesOf.
  Zero, as layer 1's texts have it.
  Entries as values; the walks of placeOf, atFirst, mayBe.
  The walks of copyOf, has, check.
-/
import Derived.Test.YtcdmldnaagiicaaDoorPlace
import Derived.Deep.OwnRows
import Derived.Test.YtcdmldnaagiicaaDoorChkW
import Derived.Test.YtcdmldnaagiicaaDoorDa
import Derived.Test.YtcdmldnaagiicaaDoorTk9
namespace Go.Proofs.YtcdmldnaagiicaaDoor.Ty
open Pl Go.RowKit

theorem make_run (n : Nat) (h : n ≤ 16777216) (w : World) : (Instr.makeSlice 34 (.int .i64 (n : Int)) (.int .i64 (n : Int))).run Tryd.prog w = .ok (.slice (some ⟨w.heap.size, 0, none⟩) n n) (w.alloc (.cells (madeCells #[.int .u8 0] n) 5)) :=
  Go.run_make_row' 34 5 (.int .u8 0) 1 Tryd.underlying34 (by kernel_rfl) rfl .i64 .i64 n (by omega) (by omega) w

theorem made_at (n i : Nat) (h : i < n) : (madeCells #[Value.int .u8 0] n)[i]? = some (.int .u8 0) := by
  simp [madeCells, h, Nat.mod_one]

/-- So many of a number's bytes. -/
def bytesL (n : Int) (size : Nat) : List Int := (List.range size).map fun i => n / 2 ^ (8 * i) % 256

theorem bytesL_oct (n : Int) (size : Nat) : Oct (bytesL n size) := by
  intro x hx
  simp [bytesL] at hx
  obtain ⟨i, _, rfl⟩ := hx
  omega
theorem bytesL_length (n : Int) (size : Nat) : (bytesL n size).length = size := by simp [bytesL]
theorem bytesL_getD (n : Int) (size i : Nat) (h : i < size) : (bytesL n size).getD i 0 = n / 2 ^ (8 * i) % 256 := by
  simp [bytesL, List.getD_eq_getElem?_getD, h]

/-- A new slice of bytes, all its own. -/
structure Fresh (w w' : World) (v : Value) (len : Nat) (zs : List Int) : Prop where
  row : Row w' (some ⟨w.heap.size, 0, none⟩) len zs
  val : v = .slice (some ⟨w.heap.size, 0, none⟩) len len
  free : ∀ i, i < len → w'.frozen? ⟨w.heap.size, i, none⟩ = false
  bel : Below w.heap.size w w'

/-- One byte more of a slice that is being filled. -/
theorem fill_step {w wr : World} {B k size : Nat} {x : Nat → Int} (hb : Below w.heap.size w wr) (hB : w.heap.size ≤ B) (hlt : k < size)
    (hc : ∀ j, j < k → wr.cell? ⟨B, j, none⟩ = some (.int .u8 (x j))) (hs : ∀ j, j < size → (∃ v, wr.cell? ⟨B, j, none⟩ = some v) ∧ wr.frozen? ⟨B, j, none⟩ = false) :
    Below w.heap.size w (wr.setCell ⟨B, k, none⟩ (.int .u8 (x k))) ∧
    (∀ j, j < k + 1 → (wr.setCell ⟨B, k, none⟩ (.int .u8 (x k))).cell? ⟨B, j, none⟩ = some (.int .u8 (x j))) ∧
    (∀ j, j < size → (∃ v, (wr.setCell ⟨B, k, none⟩ (.int .u8 (x k))).cell? ⟨B, j, none⟩ = some v) ∧ (wr.setCell ⟨B, k, none⟩ (.int .u8 (x k))).frozen? ⟨B, j, none⟩ = false) := by
  obtain ⟨⟨v, hv⟩, _⟩ := hs k hlt
  have hne : ∀ j, j ≠ k → (⟨B, k, none⟩ : Addr) ≠ ⟨B, j, none⟩ := fun j hj h => hj (congrArg Addr.off h).symm
  refine ⟨hb.setCell (by exact hB) _, fun j hj => ?_, fun j hj => ⟨?_, ?_⟩⟩
  · by_cases h : j = k
    · subst h; exact World.cell?_setCell_same _ _ _ hv
    · rw [World.cell?_setCell_other _ _ _ _ (hne j h)]; exact hc j (by omega)
  · by_cases h : j = k
    · subst h; exact ⟨_, World.cell?_setCell_same _ _ _ hv⟩
    · rw [World.cell?_setCell_other _ _ _ _ (hne j h)]; exact (hs j hj).1
  · rw [World.frozen?_setCell]; exact (hs j hj).2

end Go.Proofs.YtcdmldnaagiicaaDoor.Ty
namespace Go.Proofs.YtcdmldnaagiicaaDoor.Ty
open Pl Go.RowKit

def zeros (n : Nat) : List Int := List.replicate n 0
theorem zeros_oct (n : Nat) : Oct (zeros n) := fun x hx => by simp [zeros] at hx; omega
theorem zeros_getD (n i : Nat) : (zeros n).getD i 0 = 0 := by simp [zeros, List.getD_eq_getElem?_getD, List.getElem?_replicate]; split <;> simp
theorem row_made (w : World) (n : Nat) (T : TypeId) : Row (w.alloc (.cells (madeCells #[.int .u8 0] n) T)) (some ⟨w.heap.size, 0, none⟩) n (zeros n) where
  size := by simp [zeros]
  oct := zeros_oct n
  at_ := fun _ => ⟨_, 0, rfl, fun i hi => by rw [Nat.zero_add, World.cell?_alloc_new, made_at n i hi, zeros_getD]⟩

theorem zero_none (t : Int) (w : World) (h : sizeN t = 0) : Calls Tryd.prog 34 #[.int .u8 t] w fun e w' => e = .returned (.slice none 0 0) ∧ w' = w := by
  have H : Hid (sizeN t = 0) := h
  clear h
  go_enter Tryd.func34, Tryd.ntmps34
  go_wp2_with fail
  refine (size_any _ _).mono ?_
  rw [H.out]
  rintro e x ⟨rfl, rfl⟩
  go_wp2_with fail
  go_ret
  exact ⟨rfl, rfl⟩
theorem zero_some (t : Int) (n : Nat) (w : World) (h : sizeN t = n) (h0 : 0 < n) : Calls Tryd.prog 34 #[.int .u8 t] w fun e w' => e = .returned (.slice (some ⟨w.heap.size, 0, none⟩) n n) ∧ w.alloc (.cells (madeCells #[.int .u8 0] n) 5) = w' := by
  have hb := size_bd t
  have hmk := make_run n (by omega) w
  have H : Hid (sizeN t = n) := h
  have hd : decide ((0 : Int) < (n : Int)) = true := by simp; omega
  clear h hb
  go_enter Tryd.func34, Tryd.ntmps34
  go_wp2_with fail
  refine (size_any _ _).mono ?_
  rw [H.out]
  rintro e x ⟨rfl, rfl⟩
  go_wp2_with fail
  go_ret
  exact ⟨rfl, rfl⟩
end Go.Proofs.YtcdmldnaagiicaaDoor.Ty
namespace Go.Proofs.YtcdmldnaagiicaaDoor
open Go.RowKit

/-- An entry's cells. -/
abbrev enC (i s : Int) (nm : ByteArray) (t rt : Int) (d : Option Addr) (ld cd : Nat) (l : Option Addr) (ll cl : Nat) (h : Option Addr) (lh ch : Nat) (tg gr : Int) : Array Value := #[.int .u16 i, .int .u8 s, .string nm, .int .u8 t, .int .u8 rt, .slice d ld cd, .slice l ll cl, .slice h lh ch, .int .u8 tg, .int .u8 gr]
/-- The cells of an entry with its value. -/
abbrev itC (i s : Int) (nm : ByteArray) (t rt : Int) (d : Option Addr) (ld cd : Nat) (l : Option Addr) (ll cl : Nat) (h : Option Addr) (lh ch : Nat) (tg gr : Int) (v : Option Addr) (lv cv : Nat) : Array Value := #[.int .u16 i, .int .u8 s, .string nm, .int .u8 t, .int .u8 rt, .slice d ld cd, .slice l ll cl, .slice h lh ch, .int .u8 tg, .int .u8 gr, .slice v lv cv]
theorem sizeE : (Tryd.prog.info? 53).map (·.size) = some 10 := by kernel_rfl
theorem aggE (w : World) : (isAgg 53).run Tryd.prog w = .ok true w := by kernel_rfl
theorem sizeI : (Tryd.prog.info? 62).map (·.size) = some 11 := by kernel_rfl
theorem aggI (w : World) : (isAgg 62).run Tryd.prog w = .ok true w := by kernel_rfl
theorem enC_one (i s : Int) (nm : ByteArray) (t rt : Int) (d : Option Addr) (ld cd : Nat) (l : Option Addr) (ll cl : Nat) (h : Option Addr) (lh ch : Nat) (tg gr : Int) : (enC i s nm t rt d ld cd l ll cl h lh ch tg gr).all (·.oneCell') = true := by simp [Value.oneCell']
theorem itC_one (i s : Int) (nm : ByteArray) (t rt : Int) (d : Option Addr) (ld cd : Nat) (l : Option Addr) (ll cl : Nat) (h : Option Addr) (lh ch : Nat) (tg gr : Int) (v : Option Addr) (lv cv : Nat) : (itC i s nm t rt d ld cd l ll cl h lh ch tg gr v lv cv).all (·.oneCell') = true := by simp [Value.oneCell']
theorem loadE (w : World) (B : Nat) (i s : Int) (nm : ByteArray) (t rt : Int) (d : Option Addr) (ld cd : Nat) (l : Option Addr) (ll cl : Nat) (h : Option Addr) (lh ch : Nat) (tg gr : Int) (T : TypeId) (hb : w.heap[B]? = some (.cells (enC i s nm t rt d ld cd l ll cl h lh ch tg gr) T (0, 0))) : (loadVar 53 ⟨B, 0, none⟩).run Tryd.prog w = .ok (.agg (enC i s nm t rt d ld cd l ll cl h lh ch tg gr)) w :=
  load_part 53 10 sizeE aggE w B 0 [.int .u16 i, .int .u8 s, .string nm, .int .u8 t, .int .u8 rt, .slice d ld cd, .slice l ll cl, .slice h lh ch, .int .u8 tg, .int .u8 gr] T hb (by simp)
theorem storeE (w : World) (B : Nat) (C : Array Value) (i s : Int) (nm : ByteArray) (t rt : Int) (d : Option Addr) (ld cd : Nat) (l : Option Addr) (ll cl : Nat) (h : Option Addr) (lh ch : Nat) (tg gr : Int) (T : TypeId) (hb : w.heap[B]? = some (.cells C T (0, 0))) (hC : C.size = 10) : (storeVar 53 ⟨B, 0, none⟩ (.agg (enC i s nm t rt d ld cd l ll cl h lh ch tg gr))).run Tryd.prog w = .ok () (w.setRow B (enC i s nm t rt d ld cd l ll cl h lh ch tg gr)) :=
  run_storeVar_row w B T 53 C (enC i s nm t rt d ld cd l ll cl h lh ch tg gr) hb sizeE hC (enC_one _ _ _ _ _ _ _ _ _ _ _ _ _ _ _ _)
theorem loadI (w : World) (B : Nat) (i s : Int) (nm : ByteArray) (t rt : Int) (d : Option Addr) (ld cd : Nat) (l : Option Addr) (ll cl : Nat) (h : Option Addr) (lh ch : Nat) (tg gr : Int) (v : Option Addr) (lv cv : Nat) (T : TypeId) (hb : w.heap[B]? = some (.cells (itC i s nm t rt d ld cd l ll cl h lh ch tg gr v lv cv) T (0, 0))) : (loadVar 62 ⟨B, 0, none⟩).run Tryd.prog w = .ok (.agg (itC i s nm t rt d ld cd l ll cl h lh ch tg gr v lv cv)) w :=
  load_part 62 11 sizeI aggI w B 0 [.int .u16 i, .int .u8 s, .string nm, .int .u8 t, .int .u8 rt, .slice d ld cd, .slice l ll cl, .slice h lh ch, .int .u8 tg, .int .u8 gr, .slice v lv cv] T hb (by simp)
theorem storeI (w : World) (B : Nat) (C : Array Value) (i s : Int) (nm : ByteArray) (t rt : Int) (d : Option Addr) (ld cd : Nat) (l : Option Addr) (ll cl : Nat) (h : Option Addr) (lh ch : Nat) (tg gr : Int) (v : Option Addr) (lv cv : Nat) (T : TypeId) (hb : w.heap[B]? = some (.cells C T (0, 0))) (hC : C.size = 11) : (storeVar 62 ⟨B, 0, none⟩ (.agg (itC i s nm t rt d ld cd l ll cl h lh ch tg gr v lv cv))).run Tryd.prog w = .ok () (w.setRow B (itC i s nm t rt d ld cd l ll cl h lh ch tg gr v lv cv)) :=
  run_storeVar_row w B T 62 C (itC i s nm t rt d ld cd l ll cl h lh ch tg gr v lv cv) hb sizeI hC (itC_one _ _ _ _ _ _ _ _ _ _ _ _ _ _ _ _ _ _ _)
/-- Bytes of a slice, as the checks want them. -/
structure SlOk (w : World) (a : Option Addr) (len cap : Nat) (zs : List Int) : Prop where
  row : Row w a len zs
  le : len ≤ cap
  max : cap ≤ maxLen
theorem SlOk.next {w w' : World} {a : Option Addr} {len cap : Nat} {zs : List Int} (h : SlOk w a len cap zs) (hb : Below w.heap.size w w') : SlOk w' a len cap zs := ⟨h.row.next hb, h.le, h.max⟩
theorem slOk_nil (w : World) : SlOk w none 0 0 [] := ⟨row_nil w, Nat.le_refl _, by decide⟩
theorem Told.sl {w w' : World} {a : Option Addr} {len cap : Nat} {zs : List Int} (h : Told w w' a len cap zs) : SlOk w' a len cap zs := ⟨h.row, h.le, h.max⟩
theorem Row.ty {w : World} {a : Option Addr} {len : Nat} {zs : List Int} (h : Row w a len zs) : Ty.Row w a len zs := ⟨h.size, h.oct, h.at_⟩
theorem Row.un {w : World} {a : Option Addr} {len : Nat} {zs : List Int} (h : Ty.Row w a len zs) : Row w a len zs := ⟨h.size, h.oct, h.at_⟩
theorem tab_next {w w' : World} (h : Ty.Tab64 w) (hb : Below w.heap.size w w') : Ty.Tab64 w' := h.below hb h.old
theorem check8 (t : Int) (a lo hi : Option Addr) (la ca ll cl lh ch : Nat) (za zl zh : List Int) (w : World) (ra : SlOk w a la ca za) (rl : SlOk w lo ll cl zl) (rh : SlOk w hi lh ch zh) (hT : Ty.Tab64 w) :
    Calls Tryd.prog 32 #[.int .u8 t, .slice a la ca, .slice lo ll cl, .slice hi lh ch] w fun e w' => e = .returned (.int .u32 (Ty.chkN t za zl zh)) ∧ Below w.heap.size w w' :=
  Ty.check_any t a lo hi la ca ll cl lh ch za zl zh w ra.row.ty rl.row.ty rh.row.ty hT ra.le ra.max rl.le rl.max rh.le rh.max
/-- An entry's value at first. -/
def firstL (t : Int) (zd : List Int) : List Int := if 0 < zd.length then zd else Ty.zeros (Ty.Pl.sizeN t).toNat
theorem zero8 (t : Int) (w : World) : Calls Tryd.prog 34 #[.int .u8 t] w fun e w' => ∃ a n c, e = .returned (.slice a n c) ∧ SlOk w' a n c (Ty.zeros (Ty.Pl.sizeN t).toNat) ∧ Below w.heap.size w w' := by
  have hb := Ty.Pl.size_bd t
  obtain ⟨n, hn⟩ : ∃ n : Nat, Ty.Pl.sizeN t = n := ⟨(Ty.Pl.sizeN t).toNat, by omega⟩
  rcases Nat.eq_zero_or_pos n with h0 | hp
  · subst h0
    refine (Ty.zero_none t w (by simpa using hn)).mono ?_
    rintro e w' ⟨rfl, rfl⟩
    rw [hn]
    exact ⟨none, 0, 0, rfl, slOk_nil _, Below.refl _ _⟩
  · refine (Ty.zero_some t n w hn hp).mono ?_
    rintro e w' ⟨rfl, rfl⟩
    rw [hn]
    exact ⟨_, n, n, rfl, ⟨Row.un (Ty.row_made w n _), Nat.le_refl _, by unfold maxLen; omega⟩, Below.al (Below.refl _ _) _⟩

set_option linter.unusedSimpArgs false in
set_option maxHeartbeats 4000000 in
set_option maxRecDepth 100000 in
theorem placeOf_any (i s : Int) (nm : ByteArray) (t rt : Int) (d : Option Addr) (ld cd : Nat) (l : Option Addr) (ll cl : Nat) (h : Option Addr) (lh ch : Nat) (tg gr : Int) (w : World) : Calls Tryd.prog 16 #[.agg (enC i s nm t rt d ld cd l ll cl h lh ch tg gr)] w fun e w' => e = .returned (plV i s) ∧ Below w.heap.size w w' := by
  go_enter Tryd.func16, Tryd.ntmps16
  go_wp2_with fail
  exact bodyPost_ret (v := plV i s) (by simp [results, Tryd.results16, go_sem]) rfl ⟨rfl, (by repeat (first | exact Below.refl _ _ | apply Below.drew | apply Below.al))⟩

set_option linter.unusedSimpArgs false in
set_option maxHeartbeats 4000000 in
set_option maxRecDepth 100000 in
theorem atFirst_any (i s : Int) (nm : ByteArray) (t rt : Int) (d : Option Addr) (ld cd : Nat) (l : Option Addr) (ll cl : Nat) (h : Option Addr) (lh ch : Nat) (tg gr : Int) (zd : List Int) (w : World) (rd : SlOk w d ld cd zd) : Calls Tryd.prog 19 #[.agg (enC i s nm t rt d ld cd l ll cl h lh ch tg gr)] w fun e w' => ∃ a n c, e = .returned (.slice a n c) ∧ SlOk w' a n c (firstL t zd) ∧ Below w.heap.size w w' := by
  have hs := rd.row.size
  have RD : Hid (SlOk w d ld cd zd) := rd
  clear rd
  rcases Nat.eq_zero_or_pos ld with h0 | hp
  · subst h0
    have HF : Hid (firstL t zd = Ty.zeros (Ty.Pl.sizeN t).toNat) := if_neg (by omega)
    clear hs
    rw [HF.out]
    go_enter Tryd.func19, Tryd.ntmps19
    go_wp2_with fail
    refine (zero8 t _).mono ?_
    rintro e w1 ⟨a, n, c, rfl, hq, hb⟩
    have HQ : Hid (SlOk w1 a n c (Ty.zeros (Ty.Pl.sizeN t).toNat)) := hq
    have HB : Hid (Below w.heap.size w w1) := Below.andThen (by repeat (first | exact Below.refl _ _ | apply Below.drew | apply Below.al)) hb
    clear hq hb
    go_wp2_with fail
    go_ret
    exact ⟨a, n, c, rfl, HQ.out, HB.out⟩
  · have HF : Hid (firstL t zd = zd) := if_pos (by omega)
    have hp' : 0 < (ld : Int) := by omega
    clear hs
    rw [HF.out]
    go_enter Tryd.func19, Tryd.ntmps19
    go_wp2_with fail
    go_ret
    exact ⟨d, ld, cd, rfl, RD.out.next (by repeat (first | exact Below.refl _ _ | apply Below.drew | apply Below.al)), (by repeat (first | exact Below.refl _ _ | apply Below.drew | apply Below.al))⟩

/-- May a bound be? -/
def boundB (t : Int) (zs : List Int) : Bool := zs.length == 0 || Ty.chkN t zs [] [] == 0
set_option linter.unusedSimpArgs false in
set_option maxHeartbeats 4000000 in
set_option maxRecDepth 100000 in
theorem mayBound_any (E : Nat) (i s : Int) (nm : ByteArray) (t rt : Int) (d : Option Addr) (ld cd : Nat) (l : Option Addr) (ll cl : Nat) (h : Option Addr) (lh ch : Nat) (tg gr : Int) (b : Option Addr) (lb cb : Nat) (zb : List Int) (w : World) (hE : w.heap[E]? = some (.cells (enC i s nm t rt d ld cd l ll cl h lh ch tg gr) 53 (0, 0))) (rb : SlOk w b lb cb zb) (hT : Ty.Tab64 w) (hB : boundB t zb = true) :
    Calls Tryd.prog 31 #[.slice b lb cb, .pointer (some ⟨E, 0, none⟩)] w fun e w' => e = .returned (.bool true) ∧ Below w.heap.size w w' := by
  have hs := rb.row.size
  have c3 : w.cell? ⟨E, 3, none⟩ = some (.int .u8 t) := by rw [cell_of_row w _ 3 _ _ _ hE]; rfl
  clear hE
  rcases Nat.eq_zero_or_pos lb with h0 | hp
  · subst h0
    clear hs
    go_enter Tryd.func31, Tryd.ntmps31
    go_wp2_with fail
    go_ret
    exact ⟨rfl, Below.refl _ _⟩
  · have hk : Ty.chkN t zb [] [] = 0 := by
      simp [boundB] at hB
      rcases hB with h | h
      · rw [h] at hs; simp at hs; omega
      · exact h
    have HC : Hid (Calls Tryd.prog 32 #[.int .u8 t, .slice b lb cb, .slice none 0 0, .slice none 0 0] w fun e w' => e = .returned (.int .u32 0) ∧ Below w.heap.size w w') := by
      have := check8 t b none none lb cb 0 0 0 0 zb [] [] w rb (slOk_nil _) (slOk_nil _) hT
      rw [hk] at this
      exact this
    have hp' : ((lb : Int) == 0) = false := by simp; omega
    clear hs hk rb
    go_enter Tryd.func31, Tryd.ntmps31
    go_wp2_with fail
    refine HC.out.mono ?_
    rintro e w1 ⟨rfl, hb⟩
    go_wp2_with fail
    go_ret
    exact ⟨rfl, hb⟩

set_option linter.unusedSimpArgs false in
set_option maxHeartbeats 4000000 in
set_option maxRecDepth 100000 in
theorem mayBe_yes (i s : Int) (nm : ByteArray) (t rt : Int) (d : Option Addr) (ld cd : Nat) (l : Option Addr) (ll cl : Nat) (h : Option Addr) (lh ch : Nat) (tg gr : Int) (zd zl zh : List Int) (w : World) (rd : SlOk w d ld cd zd) (rl : SlOk w l ll cl zl) (rh : SlOk w h lh ch zh) (hT : Ty.Tab64 w) (hk : Ty.Pl.kindN t ≠ 0) (hr : rt ≤ 15) (hg : gr ≤ 16) (hn : nm.size ≤ 100) (hL : boundB t zl = true) (hH : boundB t zh = true) (hc : Ty.chkN t (firstL t zd) zl zh = 0) :
    Calls Tryd.prog 15 #[.agg (enC i s nm t rt d ld cd l ll cl h lh ch tg gr)] w fun e w' => e = .returned (.bool true) ∧ Below w.heap.size w w' := by
  have hmf : ∀ (fn : Fn) (first cap : Array Value) (w : World), (Instr.makeFunc fn first cap).run Tryd.prog w = .ok (.func fn first cap) w := fun _ _ _ _ => rfl
  have HR : Hid (∀ W, Calls Tryd.prog 33 #[.int .u8 t] W fun e w' => e = .returned (.bool true) ∧ w' = W) := fun W => by
    have := Ty.right_any t W
    rw [show (Ty.Pl.kindN t != 0) = true by simpa using hk] at this
    exact this
  have HM1 : Hid (∀ W, Below w.heap.size w W → W.heap[w.heap.size]? = some (.cells (enC i s nm t rt d ld cd l ll cl h lh ch tg gr) 53 (0, 0)) → Calls Tryd.prog 31 #[.slice l ll cl, .pointer (some ⟨w.heap.size, 0, none⟩)] W fun e w' => e = .returned (.bool true) ∧ Below W.heap.size W w') := fun W hb hx => mayBound_any _ i s nm t rt d ld cd l ll cl h lh ch tg gr l ll cl zl W hx (rl.next hb) (tab_next hT hb) hL
  have HM2 : Hid (∀ W, Below w.heap.size w W → W.heap[w.heap.size]? = some (.cells (enC i s nm t rt d ld cd l ll cl h lh ch tg gr) 53 (0, 0)) → Calls Tryd.prog 31 #[.slice h lh ch, .pointer (some ⟨w.heap.size, 0, none⟩)] W fun e w' => e = .returned (.bool true) ∧ Below W.heap.size W w') := fun W hb hx => mayBound_any _ i s nm t rt d ld cd l ll cl h lh ch tg gr h lh ch zh W hx (rh.next hb) (tab_next hT hb) hH
  have HF : Hid (∀ W, Below w.heap.size w W → Calls Tryd.prog 19 #[.agg (enC i s nm t rt d ld cd l ll cl h lh ch tg gr)] W fun e w' => ∃ a n c, e = .returned (.slice a n c) ∧ SlOk w' a n c (firstL t zd) ∧ Below W.heap.size W w') := fun W hb => atFirst_any i s nm t rt d ld cd l ll cl h lh ch tg gr zd W (rd.next hb)
  have HC : Hid (∀ W a n c, Below w.heap.size w W → SlOk W a n c (firstL t zd) → Calls Tryd.prog 32 #[.int .u8 t, .slice a n c, .slice l ll cl, .slice h lh ch] W fun e w' => e = .returned (.int .u32 0) ∧ Below W.heap.size W w') := fun W a n c hb ha => by
    have := check8 t a l h n c ll cl lh ch (firstL t zd) zl zh W ha (rl.next hb) (rh.next hb) (tab_next hT hb)
    rw [hc] at this
    exact this
  have b1 : ¬ 15 < rt := by omega
  have b2 : ¬ 16 < gr := by omega
  have b3 : ¬ (100 : Int) < (nm.size : Int) := by omega
  clear rd rl rh hT hk hL hH hc hr hg hn
  go_enter Tryd.func15, Tryd.ntmps15
  go_wp2_with fail
  refine (HR.out _).mono ?_
  rintro e w9 ⟨rfl, rfl⟩
  go_wp2_with fail
  refine (HM1.out _ (by repeat (first | exact Below.refl _ _ | apply Below.drew | apply Below.al)) (at11 _ _ _ rfl)).mono ?_
  rintro e w1 ⟨rfl, hb⟩
  have B1 : Hid (Below w.heap.size w w1) := Below.andThen (by repeat (first | exact Below.refl _ _ | apply Below.drew | apply Below.al)) hb
  have X1 : Hid (w1.heap[w.heap.size]? = some (.cells (enC i s nm t rt d ld cd l ll cl h lh ch tg gr) 53 (0, 0))) := blk11 hb (at11 _ _ _ rfl)
  have c7 : w1.cell? ⟨w.heap.size, 7, none⟩ = some (.slice h lh ch) := by rw [cell_of_row _ _ 7 _ _ _ X1.out]; rfl
  clear hb
  go_wp2_with fail
  refine (HM2.out _ B1.out X1.out).mono ?_
  rintro e w2 ⟨rfl, hb⟩
  have B2 : Hid (Below w.heap.size w w2) := Below.andThen B1.out hb
  have X2 : Hid (w2.heap[w.heap.size]? = some (.cells (enC i s nm t rt d ld cd l ll cl h lh ch tg gr) 53 (0, 0))) := blk11 hb X1.out
  clear hb c7
  go_wp2_with fail
  refine wp_region_held_drew (S := fun x => Below w.heap.size w x ∧ x.heap[w.heap.size]? = some (.cells (enC i s nm t rt d ld cd l ll cl h lh ch tg gr) 53 (0, 0))) (by kernel_rfl) (⟨Below.drew B2.out, X2.out⟩) (fun hHeld => ?_)
  refine tk 0 (.pointer (some ⟨w.heap.size, 3, none⟩)) rfl (.inl ⟨by rfl, ?_⟩) ?_
  · intro w9 hSw
    try dsimp only at hSw
    go_simp
    all_goals try decide
    all_goals try assumption
    all_goals try omega
  try simp only [Act.put, gA, gS, gZ, sA, sZ, sS]
  refine tk 1 (.int .u8 t) rfl (.inl ⟨by rfl, ?_⟩) ?_
  · intro w9 hSw
    try dsimp only at hSw
    have c0 : w9.cell? ⟨w.heap.size, 3, none⟩ = some (.int .u8 t) := by rw [cell_of_row _ _ 3 _ _ _ hSw.2]; rfl
    go_simp
    all_goals try assumption
  try simp only [Act.put, gA, gS, gZ, sA, sZ, sS]
  refine tk 2 (.agg (enC i s nm t rt d ld cd l ll cl h lh ch tg gr)) rfl (.inl ⟨by rfl, ?_⟩) ?_
  · intro w9 hSw
    try dsimp only at hSw
    exact ex_load11 53 (.tmp 1) rfl _ _ rfl (loadE _ _ i s nm t rt d ld cd l ll cl h lh ch tg gr _ hSw.2)
  try simp only [Act.put, gA, gS, gZ, sA, sZ, sS]
  refine tk 4 (.pointer (some ⟨w.heap.size, 6, none⟩)) rfl (.inl ⟨by rfl, ?_⟩) ?_
  · intro w9 hSw
    try dsimp only at hSw
    go_simp
    all_goals try decide
    all_goals try assumption
    all_goals try omega
  try simp only [Act.put, gA, gS, gZ, sA, sZ, sS]
  refine tk 5 (.slice l ll cl) rfl (.inl ⟨by rfl, ?_⟩) ?_
  · intro w9 hSw
    try dsimp only at hSw
    have c0 : w9.cell? ⟨w.heap.size, 6, none⟩ = some (.slice l ll cl) := by rw [cell_of_row _ _ 6 _ _ _ hSw.2]; rfl
    go_simp
    all_goals try assumption
  try simp only [Act.put, gA, gS, gZ, sA, sZ, sS]
  refine tk 6 (.pointer (some ⟨w.heap.size, 7, none⟩)) rfl (.inl ⟨by rfl, ?_⟩) ?_
  · intro w9 hSw
    try dsimp only at hSw
    go_simp
    all_goals try decide
    all_goals try assumption
    all_goals try omega
  try simp only [Act.put, gA, gS, gZ, sA, sZ, sS]
  refine tk 7 (.slice h lh ch) rfl (.inl ⟨by rfl, ?_⟩) ?_
  · intro w9 hSw
    try dsimp only at hSw
    have c0 : w9.cell? ⟨w.heap.size, 7, none⟩ = some (.slice h lh ch) := by rw [cell_of_row _ _ 7 _ _ _ hSw.2]; rfl
    go_simp
    all_goals try assumption
  try simp only [Act.put, gA, gS, gZ, sA, sZ, sS]
  refine wpAnyH_ready (rs := [3]) (by kernel_rfl) (by simp) ?_
  refine AllReadyH.cons rfl (fun K' hK => ?_) AllReadyH.nil
  rw [if_pos (by rfl)]
  simp only [gA, gS, gZ]
  go_wp2_with fail
  refine (HF.out _ hHeld.1).mono ?_
  rintro e w3 ⟨a9, n9, c9, rfl, hq9, hbx⟩
  have HQ9 : Hid (SlOk w3 a9 n9 c9 (firstL t zd)) := hq9
  clear hq9
  try go_wp2_with fail
  refine hK.out _ _ (⟨Below.andThen hHeld.1 hbx, blk11 hbx hHeld.2⟩) (fun hHeld => ?_)
  clear hK K'
  try simp only [Act.put, gA, gS, gZ, sA, sZ, sS]
  refine wpAnyH_ready (rs := [8]) (by kernel_rfl) (by simp) ?_
  refine AllReadyH.cons rfl (fun K' hK => ?_) AllReadyH.nil
  rw [if_pos (by rfl)]
  simp only [gA, gS, gZ]
  go_wp2_with fail
  refine (HC.out _ a9 n9 c9 hHeld.1 HQ9.out).mono ?_
  rintro e w4 ⟨rfl, hbx⟩
  try go_wp2_with fail
  refine hK.out _ _ (⟨Below.andThen hHeld.1 hbx, blk11 hbx hHeld.2⟩) (fun hHeld => ?_)
  clear hK K'
  try simp only [Act.put, gA, gS, gZ, sA, sZ, sS]
  refine tk 9 (.bool true) rfl (.inl ⟨by rfl, ?_⟩) ?_
  · intro w9 hSw
    try dsimp only at hSw
    go_simp
    all_goals try decide
    all_goals try assumption
    all_goals try omega
  try simp only [Act.put, gA, gS, gZ, sA, sZ, sS]
  refine tk 10 (.bool true) rfl (.inl ⟨by rfl, ?_⟩) ?_
  · intro w9 hSw
    try dsimp only at hSw
    go_simp
    all_goals try decide
    all_goals try assumption
    all_goals try omega
  try simp only [Act.put, gA, gS, gZ, sA, sZ, sS]
  refine wpAnyH_done (by kernel_rfl) ?_ _
  go_wp2_with fail
  go_ret
  exact ⟨rfl, hHeld.1⟩
end Go.Proofs.YtcdmldnaagiicaaDoor
namespace Go.Proofs.YtcdmldnaagiicaaDoor
open Go.RowKit

theorem store_sl (t : TypeId) (ht : (Tryd.prog.info? t).map (·.size) = some 1) (w : World) (B j : Nat) (a : Option Addr) (len cap : Nat) (C : Array Value) (T : TypeId) (h : w.heap[B]? = some (.cells C T (0, 0))) (hj : j < C.size) : (storeVar t ⟨B, j, none⟩ (.slice a len cap)).run Tryd.prog w = .ok () (w.setRow B (C.setIfInBounds j (.slice a len cap))) := by
  cases hq : Tryd.prog.info? t with
  | none => simp [hq] at ht
  | some i =>
    have hi : i.size = 1 := by simpa [hq] using ht
    have e1 : (C.toList.take j ++ [Value.slice a len cap] ++ C.toList.drop (j + 1)).toArray = C.setIfInBounds j (.slice a len cap) := by
      apply Array.toList_inj.1
      simp [List.set_eq_take_append_cons_drop, hj]
    rw [← e1]
    have := run_storeCells_at Tryd.prog B j T [.slice a len cap] 0 C w h (by simp; omega) (by simp [Value.oneCell'])
    simpa [storeVar, Value.cells, sizeOf, typeInfo, hq, hi, Result.andThen] using this
theorem sizeSl : (Tryd.prog.info? 34).map (·.size) = some 1 := by kernel_rfl
/-- An entry in new memory. -/
def CopyPost (i s : Int) (nm : ByteArray) (t rt : Int) (ld ll lh : Nat) (tg gr : Int) (zd zl zh : List Int) (w : World) (r : Ending) (w' : World) : Prop :=
  ∃ a1 c1 a2 c2 a3 c3, r = .returned (.agg (enC i s nm t rt a1 ld c1 a2 ll c2 a3 lh c3 tg gr)) ∧ Told w w' a1 ld c1 zd ∧ Told w w' a2 ll c2 zl ∧ Told w w' a3 lh c3 zh ∧ Below w.heap.size w w'

set_option linter.unusedSimpArgs false in
set_option maxHeartbeats 4000000 in
set_option maxRecDepth 100000 in
theorem copyOf_any (i s : Int) (nm : ByteArray) (t rt : Int) (d : Option Addr) (ld cd : Nat) (l : Option Addr) (ll cl : Nat) (h : Option Addr) (lh ch : Nat) (tg gr : Int) (zd zl zh : List Int) (w : World) (rd : SlOk w d ld cd zd) (rl : SlOk w l ll cl zl) (rh : SlOk w h lh ch zh) (h1 : ld ≤ 16777216) (h2 : ll ≤ 16777216) (h3 : lh ≤ 16777216) :
    Calls Tryd.prog 17 #[.agg (enC i s nm t rt d ld cd l ll cl h lh ch tg gr)] w (CopyPost i s nm t rt ld ll lh tg gr zd zl zh w) := by
  have HC1 : Hid (∀ W, Below w.heap.size w W → Calls Tryd.prog 18 #[.slice d ld cd] W fun e w' => (∃ a' cap', e = .returned (.slice a' ld cap') ∧ Told W w' a' ld cap' zd) ∧ Below W.heap.size W w') := fun W hb => clone8_any d ld cd zd W (rd.row.next hb) h1
  have HC2 : Hid (∀ W, Below w.heap.size w W → Calls Tryd.prog 18 #[.slice l ll cl] W fun e w' => (∃ a' cap', e = .returned (.slice a' ll cap') ∧ Told W w' a' ll cap' zl) ∧ Below W.heap.size W w') := fun W hb => clone8_any l ll cl zl W (rl.row.next hb) h2
  have HC3 : Hid (∀ W, Below w.heap.size w W → Calls Tryd.prog 18 #[.slice h lh ch] W fun e w' => (∃ a' cap', e = .returned (.slice a' lh cap') ∧ Told W w' a' lh cap' zh) ∧ Below W.heap.size W w') := fun W hb => clone8_any h lh ch zh W (rh.row.next hb) h3
  clear rd rl rh h1 h2 h3
  go_enter Tryd.func17, Tryd.ntmps17
  go_wp2_with fail
  obtain ⟨w0, HZ⟩ : ∃ w0, Hid ((w.alloc (.cells (enC i s nm t rt d ld cd l ll cl h lh ch tg gr) 53)).alloc (.cells (enC 0 0 ⟨#[]⟩ 0 0 none 0 0 none 0 0 none 0 0 0 0) 53) = w0) := ⟨_, rfl⟩
  have B0 : Hid (Below w.heap.size w w0.drew) := by show Below _ _ _; rw [← HZ.out]; exact Below.drew (by repeat (first | exact Below.refl _ _ | apply Below.drew | apply Below.al))
  have X0 : Hid (w0.drew.heap[w.heap.size]? = some (.cells (enC i s nm t rt d ld cd l ll cl h lh ch tg gr) 53 (0, 0))) := by show _ = _; rw [← HZ.out]; exact ext11 (at11 _ _ _ rfl)
  have R0 : Hid (w0.drew.heap[w.heap.size + 1]? = some (.cells (enC 0 0 ⟨#[]⟩ 0 0 none 0 0 none 0 0 none 0 0 0 0) 53 (0, 0))) := by show _ = _; rw [← HZ.out]; exact at11 _ _ _ (by simp)
  have L0 : Hid (w.heap.size + 1 < w0.drew.heap.size) := lt_of_heap R0.out
  rw [show (w.alloc (.cells (enC i s nm t rt d ld cd l ll cl h lh ch tg gr) 53)).alloc (.cells (enC 0 0 ⟨#[]⟩ 0 0 none 0 0 none 0 0 none 0 0 0 0) 53) = w0 from HZ.out]
  clear HZ
  refine wp_region_held_drew (S := fun x => Below w.heap.size w x ∧ (∃ C : Array Value, C.size = 10 ∧ x.heap[w.heap.size]? = some (.cells C 53 (0, 0))) ∧ x.heap[w.heap.size + 1]? = some (.cells (enC 0 0 ⟨#[]⟩ 0 0 none 0 0 none 0 0 none 0 0 0 0) 53 (0, 0))) (by kernel_rfl) (⟨B0.out, ⟨_, rfl, X0.out⟩, R0.out⟩) (fun hHeld => ?_)
  refine tk 0 (.pointer (some ⟨w.heap.size, 5, none⟩)) rfl (.inl ⟨by rfl, ?_⟩) ?_
  · intro w9 hSw
    try dsimp only at hSw
    go_simp
    all_goals try decide
    all_goals try assumption
    all_goals try omega
  try simp only [Act.put, gA, gS, gZ, sA, sZ, sS]
  refine tk 3 (.pointer (some ⟨w.heap.size, 6, none⟩)) rfl (.inl ⟨by rfl, ?_⟩) ?_
  · intro w9 hSw
    try dsimp only at hSw
    go_simp
    all_goals try decide
    all_goals try assumption
    all_goals try omega
  try simp only [Act.put, gA, gS, gZ, sA, sZ, sS]
  refine tk 6 (.pointer (some ⟨w.heap.size, 7, none⟩)) rfl (.inl ⟨by rfl, ?_⟩) ?_
  · intro w9 hSw
    try dsimp only at hSw
    go_simp
    all_goals try decide
    all_goals try assumption
    all_goals try omega
  try simp only [Act.put, gA, gS, gZ, sA, sZ, sS]
  refine wpAnyH_ready (rs := [1, 4, 7]) (by kernel_rfl) (by simp) ?_
  refine (AllReadyH.cons rfl (fun K' hK => ?y65) (AllReadyH.cons rfl (fun K' hK => ?y66) (AllReadyH.cons rfl (fun K' hK => ?y67) AllReadyH.nil)))
  case' y65 =>
    rw [if_pos (by rfl)]
    simp only [gA, gS, gZ]
    have cc : w0.drew.cell? ⟨w.heap.size, 5, none⟩ = some (.slice d ld cd) := by rw [cell_of_row _ _ 5 _ _ _ X0.out]; rfl
    go_wp2_with fail
    refine hK.out _ _ (hHeld) (fun hHeld => ?_)
    clear hK K'
    try simp only [Act.put, gA, gS, gZ, sA, sZ, sS]
    clear cc
    refine wpAnyH_ready (rs := [2, 4, 7]) (by kernel_rfl) (by simp) ?_
    refine (AllReadyH.cons rfl (fun K' hK => ?y31) (AllReadyH.cons rfl (fun K' hK => ?y32) (AllReadyH.cons rfl (fun K' hK => ?y33) AllReadyH.nil)))
    case' y31 =>
      rw [if_pos (by rfl)]
      simp only [gA, gS, gZ]
      go_wp2_with fail
      refine (HC1.out _ B0.out).mono ?_
      rintro e w1 ⟨⟨a1, c1, rfl, ht⟩, hb⟩
      have T1 : Hid (Told _ w1 a1 _ c1 _) := ht
      have B1 : Hid (Below w.heap.size w w1) := Below.andThen B0.out hb
      have X1 : Hid (w1.heap[w.heap.size]? = some (.cells (enC i s nm t rt d ld cd l ll cl h lh ch tg gr) 53 (0, 0))) := blk11 hb X0.out
      have R1 : Hid (w1.heap[w.heap.size + 1]? = some (.cells (enC 0 0 ⟨#[]⟩ 0 0 none 0 0 none 0 0 none 0 0 0 0) 53 (0, 0))) := blk11 hb R0.out
      have N1 : Hid (Below w0.drew.heap.size w0.drew w1) := hb
      clear ht hb
      try go_wp2_with fail
      refine hK.out _ _ (⟨B1.out, ⟨_, rfl, X1.out⟩, R1.out⟩) (fun hHeld => ?_)
      clear hK K'
      try simp only [Act.put, gA, gS, gZ, sA, sZ, sS]
      refine wpAnyH_ready (rs := [4, 7]) (by kernel_rfl) (by simp) ?_
      refine (AllReadyH.cons rfl (fun K' hK => ?y10) (AllReadyH.cons rfl (fun K' hK => ?y11) AllReadyH.nil))
      case' y10 =>
        rw [if_pos (by rfl)]
        simp only [gA, gS, gZ]
        have cc : w1.cell? ⟨w.heap.size, 6, none⟩ = some (.slice l ll cl) := by rw [cell_of_row _ _ 6 _ _ _ X1.out]; rfl
        go_wp2_with fail
        refine hK.out _ _ (hHeld) (fun hHeld => ?_)
        clear hK K'
        try simp only [Act.put, gA, gS, gZ, sA, sZ, sS]
        clear cc
        refine wpAnyH_ready (rs := [5, 7]) (by kernel_rfl) (by simp) ?_
        refine (AllReadyH.cons rfl (fun K' hK => ?y5) (AllReadyH.cons rfl (fun K' hK => ?y6) AllReadyH.nil))
        case' y5 =>
          rw [if_pos (by rfl)]
          simp only [gA, gS, gZ]
          go_wp2_with fail
          refine (HC2.out _ B1.out).mono ?_
          rintro e w2 ⟨⟨a2, c2, rfl, ht⟩, hb⟩
          have T2 : Hid (Told _ w2 a2 _ c2 _) := ht
          have B2 : Hid (Below w.heap.size w w2) := Below.andThen B1.out hb
          have X2 : Hid (w2.heap[w.heap.size]? = some (.cells (enC i s nm t rt d ld cd l ll cl h lh ch tg gr) 53 (0, 0))) := blk11 hb X1.out
          have R2 : Hid (w2.heap[w.heap.size + 1]? = some (.cells (enC 0 0 ⟨#[]⟩ 0 0 none 0 0 none 0 0 none 0 0 0 0) 53 (0, 0))) := blk11 hb R1.out
          have N2 : Hid (Below w1.heap.size w1 w2) := hb
          clear ht hb
          try go_wp2_with fail
          refine hK.out _ _ (⟨B2.out, ⟨_, rfl, X2.out⟩, R2.out⟩) (fun hHeld => ?_)
          clear hK K'
          try simp only [Act.put, gA, gS, gZ, sA, sZ, sS]
          refine wpAnyH_ready (rs := [7]) (by kernel_rfl) (by simp) ?_
          refine (AllReadyH.cons rfl (fun K' hK => ?y2) AllReadyH.nil)
          case' y2 =>
            rw [if_pos (by rfl)]
            simp only [gA, gS, gZ]
            have cc : w2.cell? ⟨w.heap.size, 7, none⟩ = some (.slice h lh ch) := by rw [cell_of_row _ _ 7 _ _ _ X2.out]; rfl
            go_wp2_with fail
            refine hK.out _ _ (hHeld) (fun hHeld => ?_)
            clear hK K'
            try simp only [Act.put, gA, gS, gZ, sA, sZ, sS]
            clear cc
            refine tk 9 (.pointer (some ⟨w.heap.size, 5, none⟩)) rfl (.inl ⟨by rfl, ?_⟩) ?_
            · intro w9 hSw
              try dsimp only at hSw
              go_simp
              all_goals try decide
              all_goals try assumption
              all_goals try omega
            try simp only [Act.put, gA, gS, gZ, sA, sZ, sS]
            refine wpAnyH_ready (rs := [8]) (by kernel_rfl) (by simp) ?_
            refine (AllReadyH.cons rfl (fun K' hK => ?y1) AllReadyH.nil)
            case' y1 =>
              rw [if_pos (by rfl)]
              simp only [gA, gS, gZ]
              go_wp2_with fail
              refine (HC3.out _ B2.out).mono ?_
              rintro e w3 ⟨⟨a3, c3, rfl, ht⟩, hb⟩
              have T3 : Hid (Told _ w3 a3 _ c3 _) := ht
              have B3 : Hid (Below w.heap.size w w3) := Below.andThen B2.out hb
              have X3 : Hid (w3.heap[w.heap.size]? = some (.cells (enC i s nm t rt d ld cd l ll cl h lh ch tg gr) 53 (0, 0))) := blk11 hb X2.out
              have R3 : Hid (w3.heap[w.heap.size + 1]? = some (.cells (enC 0 0 ⟨#[]⟩ 0 0 none 0 0 none 0 0 none 0 0 0 0) 53 (0, 0))) := blk11 hb R2.out
              have N3 : Hid (Below w2.heap.size w2 w3) := hb
              clear ht hb
              try go_wp2_with fail
              refine hK.out _ _ (⟨B3.out, ⟨_, rfl, X3.out⟩, R3.out⟩) (fun hHeld => ?_)
              clear hK K'
              try simp only [Act.put, gA, gS, gZ, sA, sZ, sS]
        case' y6 =>
          rw [if_pos (by rfl)]
          simp only [gA, gS, gZ]
          have cc : w1.cell? ⟨w.heap.size, 7, none⟩ = some (.slice h lh ch) := by rw [cell_of_row _ _ 7 _ _ _ X1.out]; rfl
          go_wp2_with fail
          refine hK.out _ _ (hHeld) (fun hHeld => ?_)
          clear hK K'
          try simp only [Act.put, gA, gS, gZ, sA, sZ, sS]
          clear cc
          refine tk 9 (.pointer (some ⟨w.heap.size, 5, none⟩)) rfl (.inl ⟨by rfl, ?_⟩) ?_
          · intro w9 hSw
            try dsimp only at hSw
            go_simp
            all_goals try decide
            all_goals try assumption
            all_goals try omega
          try simp only [Act.put, gA, gS, gZ, sA, sZ, sS]
          refine wpAnyH_ready (rs := [5]) (by kernel_rfl) (by simp) ?_
          refine (AllReadyH.cons rfl (fun K' hK => ?y4) AllReadyH.nil)
          case' y4 =>
            rw [if_pos (by rfl)]
            simp only [gA, gS, gZ]
            go_wp2_with fail
            refine (HC2.out _ B1.out).mono ?_
            rintro e w2 ⟨⟨a2, c2, rfl, ht⟩, hb⟩
            have T2 : Hid (Told _ w2 a2 _ c2 _) := ht
            have B2 : Hid (Below w.heap.size w w2) := Below.andThen B1.out hb
            have X2 : Hid (w2.heap[w.heap.size]? = some (.cells (enC i s nm t rt d ld cd l ll cl h lh ch tg gr) 53 (0, 0))) := blk11 hb X1.out
            have R2 : Hid (w2.heap[w.heap.size + 1]? = some (.cells (enC 0 0 ⟨#[]⟩ 0 0 none 0 0 none 0 0 none 0 0 0 0) 53 (0, 0))) := blk11 hb R1.out
            have N2 : Hid (Below w1.heap.size w1 w2) := hb
            clear ht hb
            try go_wp2_with fail
            refine hK.out _ _ (⟨B2.out, ⟨_, rfl, X2.out⟩, R2.out⟩) (fun hHeld => ?_)
            clear hK K'
            try simp only [Act.put, gA, gS, gZ, sA, sZ, sS]
            refine wpAnyH_ready (rs := [8]) (by kernel_rfl) (by simp) ?_
            refine (AllReadyH.cons rfl (fun K' hK => ?y3) AllReadyH.nil)
            case' y3 =>
              rw [if_pos (by rfl)]
              simp only [gA, gS, gZ]
              go_wp2_with fail
              refine (HC3.out _ B2.out).mono ?_
              rintro e w3 ⟨⟨a3, c3, rfl, ht⟩, hb⟩
              have T3 : Hid (Told _ w3 a3 _ c3 _) := ht
              have B3 : Hid (Below w.heap.size w w3) := Below.andThen B2.out hb
              have X3 : Hid (w3.heap[w.heap.size]? = some (.cells (enC i s nm t rt d ld cd l ll cl h lh ch tg gr) 53 (0, 0))) := blk11 hb X2.out
              have R3 : Hid (w3.heap[w.heap.size + 1]? = some (.cells (enC 0 0 ⟨#[]⟩ 0 0 none 0 0 none 0 0 none 0 0 0 0) 53 (0, 0))) := blk11 hb R2.out
              have N3 : Hid (Below w2.heap.size w2 w3) := hb
              clear ht hb
              try go_wp2_with fail
              refine hK.out _ _ (⟨B3.out, ⟨_, rfl, X3.out⟩, R3.out⟩) (fun hHeld => ?_)
              clear hK K'
              try simp only [Act.put, gA, gS, gZ, sA, sZ, sS]
      case' y11 =>
        rw [if_pos (by rfl)]
        simp only [gA, gS, gZ]
        have cc : w1.cell? ⟨w.heap.size, 7, none⟩ = some (.slice h lh ch) := by rw [cell_of_row _ _ 7 _ _ _ X1.out]; rfl
        go_wp2_with fail
        refine hK.out _ _ (hHeld) (fun hHeld => ?_)
        clear hK K'
        try simp only [Act.put, gA, gS, gZ, sA, sZ, sS]
        clear cc
        refine wpAnyH_ready (rs := [4]) (by kernel_rfl) (by simp) ?_
        refine (AllReadyH.cons rfl (fun K' hK => ?y9) AllReadyH.nil)
        case' y9 =>
          rw [if_pos (by rfl)]
          simp only [gA, gS, gZ]
          have cc : w1.cell? ⟨w.heap.size, 6, none⟩ = some (.slice l ll cl) := by rw [cell_of_row _ _ 6 _ _ _ X1.out]; rfl
          go_wp2_with fail
          refine hK.out _ _ (hHeld) (fun hHeld => ?_)
          clear hK K'
          try simp only [Act.put, gA, gS, gZ, sA, sZ, sS]
          clear cc
          refine tk 9 (.pointer (some ⟨w.heap.size, 5, none⟩)) rfl (.inl ⟨by rfl, ?_⟩) ?_
          · intro w9 hSw
            try dsimp only at hSw
            go_simp
            all_goals try decide
            all_goals try assumption
            all_goals try omega
          try simp only [Act.put, gA, gS, gZ, sA, sZ, sS]
          refine wpAnyH_ready (rs := [5]) (by kernel_rfl) (by simp) ?_
          refine (AllReadyH.cons rfl (fun K' hK => ?y8) AllReadyH.nil)
          case' y8 =>
            rw [if_pos (by rfl)]
            simp only [gA, gS, gZ]
            go_wp2_with fail
            refine (HC2.out _ B1.out).mono ?_
            rintro e w2 ⟨⟨a2, c2, rfl, ht⟩, hb⟩
            have T2 : Hid (Told _ w2 a2 _ c2 _) := ht
            have B2 : Hid (Below w.heap.size w w2) := Below.andThen B1.out hb
            have X2 : Hid (w2.heap[w.heap.size]? = some (.cells (enC i s nm t rt d ld cd l ll cl h lh ch tg gr) 53 (0, 0))) := blk11 hb X1.out
            have R2 : Hid (w2.heap[w.heap.size + 1]? = some (.cells (enC 0 0 ⟨#[]⟩ 0 0 none 0 0 none 0 0 none 0 0 0 0) 53 (0, 0))) := blk11 hb R1.out
            have N2 : Hid (Below w1.heap.size w1 w2) := hb
            clear ht hb
            try go_wp2_with fail
            refine hK.out _ _ (⟨B2.out, ⟨_, rfl, X2.out⟩, R2.out⟩) (fun hHeld => ?_)
            clear hK K'
            try simp only [Act.put, gA, gS, gZ, sA, sZ, sS]
            refine wpAnyH_ready (rs := [8]) (by kernel_rfl) (by simp) ?_
            refine (AllReadyH.cons rfl (fun K' hK => ?y7) AllReadyH.nil)
            case' y7 =>
              rw [if_pos (by rfl)]
              simp only [gA, gS, gZ]
              go_wp2_with fail
              refine (HC3.out _ B2.out).mono ?_
              rintro e w3 ⟨⟨a3, c3, rfl, ht⟩, hb⟩
              have T3 : Hid (Told _ w3 a3 _ c3 _) := ht
              have B3 : Hid (Below w.heap.size w w3) := Below.andThen B2.out hb
              have X3 : Hid (w3.heap[w.heap.size]? = some (.cells (enC i s nm t rt d ld cd l ll cl h lh ch tg gr) 53 (0, 0))) := blk11 hb X2.out
              have R3 : Hid (w3.heap[w.heap.size + 1]? = some (.cells (enC 0 0 ⟨#[]⟩ 0 0 none 0 0 none 0 0 none 0 0 0 0) 53 (0, 0))) := blk11 hb R2.out
              have N3 : Hid (Below w2.heap.size w2 w3) := hb
              clear ht hb
              try go_wp2_with fail
              refine hK.out _ _ (⟨B3.out, ⟨_, rfl, X3.out⟩, R3.out⟩) (fun hHeld => ?_)
              clear hK K'
              try simp only [Act.put, gA, gS, gZ, sA, sZ, sS]
    case' y32 =>
      rw [if_pos (by rfl)]
      simp only [gA, gS, gZ]
      have cc : w0.drew.cell? ⟨w.heap.size, 6, none⟩ = some (.slice l ll cl) := by rw [cell_of_row _ _ 6 _ _ _ X0.out]; rfl
      go_wp2_with fail
      refine hK.out _ _ (hHeld) (fun hHeld => ?_)
      clear hK K'
      try simp only [Act.put, gA, gS, gZ, sA, sZ, sS]
      clear cc
      refine wpAnyH_ready (rs := [2, 7]) (by kernel_rfl) (by simp) ?_
      refine (AllReadyH.cons rfl (fun K' hK => ?y21) (AllReadyH.cons rfl (fun K' hK => ?y22) AllReadyH.nil))
      case' y21 =>
        rw [if_pos (by rfl)]
        simp only [gA, gS, gZ]
        go_wp2_with fail
        refine (HC1.out _ B0.out).mono ?_
        rintro e w1 ⟨⟨a1, c1, rfl, ht⟩, hb⟩
        have T1 : Hid (Told _ w1 a1 _ c1 _) := ht
        have B1 : Hid (Below w.heap.size w w1) := Below.andThen B0.out hb
        have X1 : Hid (w1.heap[w.heap.size]? = some (.cells (enC i s nm t rt d ld cd l ll cl h lh ch tg gr) 53 (0, 0))) := blk11 hb X0.out
        have R1 : Hid (w1.heap[w.heap.size + 1]? = some (.cells (enC 0 0 ⟨#[]⟩ 0 0 none 0 0 none 0 0 none 0 0 0 0) 53 (0, 0))) := blk11 hb R0.out
        have N1 : Hid (Below w0.drew.heap.size w0.drew w1) := hb
        clear ht hb
        try go_wp2_with fail
        refine hK.out _ _ (⟨B1.out, ⟨_, rfl, X1.out⟩, R1.out⟩) (fun hHeld => ?_)
        clear hK K'
        try simp only [Act.put, gA, gS, gZ, sA, sZ, sS]
        refine wpAnyH_ready (rs := [5, 7]) (by kernel_rfl) (by simp) ?_
        refine (AllReadyH.cons rfl (fun K' hK => ?y16) (AllReadyH.cons rfl (fun K' hK => ?y17) AllReadyH.nil))
        case' y16 =>
          rw [if_pos (by rfl)]
          simp only [gA, gS, gZ]
          go_wp2_with fail
          refine (HC2.out _ B1.out).mono ?_
          rintro e w2 ⟨⟨a2, c2, rfl, ht⟩, hb⟩
          have T2 : Hid (Told _ w2 a2 _ c2 _) := ht
          have B2 : Hid (Below w.heap.size w w2) := Below.andThen B1.out hb
          have X2 : Hid (w2.heap[w.heap.size]? = some (.cells (enC i s nm t rt d ld cd l ll cl h lh ch tg gr) 53 (0, 0))) := blk11 hb X1.out
          have R2 : Hid (w2.heap[w.heap.size + 1]? = some (.cells (enC 0 0 ⟨#[]⟩ 0 0 none 0 0 none 0 0 none 0 0 0 0) 53 (0, 0))) := blk11 hb R1.out
          have N2 : Hid (Below w1.heap.size w1 w2) := hb
          clear ht hb
          try go_wp2_with fail
          refine hK.out _ _ (⟨B2.out, ⟨_, rfl, X2.out⟩, R2.out⟩) (fun hHeld => ?_)
          clear hK K'
          try simp only [Act.put, gA, gS, gZ, sA, sZ, sS]
          refine wpAnyH_ready (rs := [7]) (by kernel_rfl) (by simp) ?_
          refine (AllReadyH.cons rfl (fun K' hK => ?y13) AllReadyH.nil)
          case' y13 =>
            rw [if_pos (by rfl)]
            simp only [gA, gS, gZ]
            have cc : w2.cell? ⟨w.heap.size, 7, none⟩ = some (.slice h lh ch) := by rw [cell_of_row _ _ 7 _ _ _ X2.out]; rfl
            go_wp2_with fail
            refine hK.out _ _ (hHeld) (fun hHeld => ?_)
            clear hK K'
            try simp only [Act.put, gA, gS, gZ, sA, sZ, sS]
            clear cc
            refine tk 9 (.pointer (some ⟨w.heap.size, 5, none⟩)) rfl (.inl ⟨by rfl, ?_⟩) ?_
            · intro w9 hSw
              try dsimp only at hSw
              go_simp
              all_goals try decide
              all_goals try assumption
              all_goals try omega
            try simp only [Act.put, gA, gS, gZ, sA, sZ, sS]
            refine wpAnyH_ready (rs := [8]) (by kernel_rfl) (by simp) ?_
            refine (AllReadyH.cons rfl (fun K' hK => ?y12) AllReadyH.nil)
            case' y12 =>
              rw [if_pos (by rfl)]
              simp only [gA, gS, gZ]
              go_wp2_with fail
              refine (HC3.out _ B2.out).mono ?_
              rintro e w3 ⟨⟨a3, c3, rfl, ht⟩, hb⟩
              have T3 : Hid (Told _ w3 a3 _ c3 _) := ht
              have B3 : Hid (Below w.heap.size w w3) := Below.andThen B2.out hb
              have X3 : Hid (w3.heap[w.heap.size]? = some (.cells (enC i s nm t rt d ld cd l ll cl h lh ch tg gr) 53 (0, 0))) := blk11 hb X2.out
              have R3 : Hid (w3.heap[w.heap.size + 1]? = some (.cells (enC 0 0 ⟨#[]⟩ 0 0 none 0 0 none 0 0 none 0 0 0 0) 53 (0, 0))) := blk11 hb R2.out
              have N3 : Hid (Below w2.heap.size w2 w3) := hb
              clear ht hb
              try go_wp2_with fail
              refine hK.out _ _ (⟨B3.out, ⟨_, rfl, X3.out⟩, R3.out⟩) (fun hHeld => ?_)
              clear hK K'
              try simp only [Act.put, gA, gS, gZ, sA, sZ, sS]
        case' y17 =>
          rw [if_pos (by rfl)]
          simp only [gA, gS, gZ]
          have cc : w1.cell? ⟨w.heap.size, 7, none⟩ = some (.slice h lh ch) := by rw [cell_of_row _ _ 7 _ _ _ X1.out]; rfl
          go_wp2_with fail
          refine hK.out _ _ (hHeld) (fun hHeld => ?_)
          clear hK K'
          try simp only [Act.put, gA, gS, gZ, sA, sZ, sS]
          clear cc
          refine tk 9 (.pointer (some ⟨w.heap.size, 5, none⟩)) rfl (.inl ⟨by rfl, ?_⟩) ?_
          · intro w9 hSw
            try dsimp only at hSw
            go_simp
            all_goals try decide
            all_goals try assumption
            all_goals try omega
          try simp only [Act.put, gA, gS, gZ, sA, sZ, sS]
          refine wpAnyH_ready (rs := [5]) (by kernel_rfl) (by simp) ?_
          refine (AllReadyH.cons rfl (fun K' hK => ?y15) AllReadyH.nil)
          case' y15 =>
            rw [if_pos (by rfl)]
            simp only [gA, gS, gZ]
            go_wp2_with fail
            refine (HC2.out _ B1.out).mono ?_
            rintro e w2 ⟨⟨a2, c2, rfl, ht⟩, hb⟩
            have T2 : Hid (Told _ w2 a2 _ c2 _) := ht
            have B2 : Hid (Below w.heap.size w w2) := Below.andThen B1.out hb
            have X2 : Hid (w2.heap[w.heap.size]? = some (.cells (enC i s nm t rt d ld cd l ll cl h lh ch tg gr) 53 (0, 0))) := blk11 hb X1.out
            have R2 : Hid (w2.heap[w.heap.size + 1]? = some (.cells (enC 0 0 ⟨#[]⟩ 0 0 none 0 0 none 0 0 none 0 0 0 0) 53 (0, 0))) := blk11 hb R1.out
            have N2 : Hid (Below w1.heap.size w1 w2) := hb
            clear ht hb
            try go_wp2_with fail
            refine hK.out _ _ (⟨B2.out, ⟨_, rfl, X2.out⟩, R2.out⟩) (fun hHeld => ?_)
            clear hK K'
            try simp only [Act.put, gA, gS, gZ, sA, sZ, sS]
            refine wpAnyH_ready (rs := [8]) (by kernel_rfl) (by simp) ?_
            refine (AllReadyH.cons rfl (fun K' hK => ?y14) AllReadyH.nil)
            case' y14 =>
              rw [if_pos (by rfl)]
              simp only [gA, gS, gZ]
              go_wp2_with fail
              refine (HC3.out _ B2.out).mono ?_
              rintro e w3 ⟨⟨a3, c3, rfl, ht⟩, hb⟩
              have T3 : Hid (Told _ w3 a3 _ c3 _) := ht
              have B3 : Hid (Below w.heap.size w w3) := Below.andThen B2.out hb
              have X3 : Hid (w3.heap[w.heap.size]? = some (.cells (enC i s nm t rt d ld cd l ll cl h lh ch tg gr) 53 (0, 0))) := blk11 hb X2.out
              have R3 : Hid (w3.heap[w.heap.size + 1]? = some (.cells (enC 0 0 ⟨#[]⟩ 0 0 none 0 0 none 0 0 none 0 0 0 0) 53 (0, 0))) := blk11 hb R2.out
              have N3 : Hid (Below w2.heap.size w2 w3) := hb
              clear ht hb
              try go_wp2_with fail
              refine hK.out _ _ (⟨B3.out, ⟨_, rfl, X3.out⟩, R3.out⟩) (fun hHeld => ?_)
              clear hK K'
              try simp only [Act.put, gA, gS, gZ, sA, sZ, sS]
      case' y22 =>
        rw [if_pos (by rfl)]
        simp only [gA, gS, gZ]
        have cc : w0.drew.cell? ⟨w.heap.size, 7, none⟩ = some (.slice h lh ch) := by rw [cell_of_row _ _ 7 _ _ _ X0.out]; rfl
        go_wp2_with fail
        refine hK.out _ _ (hHeld) (fun hHeld => ?_)
        clear hK K'
        try simp only [Act.put, gA, gS, gZ, sA, sZ, sS]
        clear cc
        refine wpAnyH_ready (rs := [2]) (by kernel_rfl) (by simp) ?_
        refine (AllReadyH.cons rfl (fun K' hK => ?y20) AllReadyH.nil)
        case' y20 =>
          rw [if_pos (by rfl)]
          simp only [gA, gS, gZ]
          go_wp2_with fail
          refine (HC1.out _ B0.out).mono ?_
          rintro e w1 ⟨⟨a1, c1, rfl, ht⟩, hb⟩
          have T1 : Hid (Told _ w1 a1 _ c1 _) := ht
          have B1 : Hid (Below w.heap.size w w1) := Below.andThen B0.out hb
          have X1 : Hid (w1.heap[w.heap.size]? = some (.cells (enC i s nm t rt d ld cd l ll cl h lh ch tg gr) 53 (0, 0))) := blk11 hb X0.out
          have R1 : Hid (w1.heap[w.heap.size + 1]? = some (.cells (enC 0 0 ⟨#[]⟩ 0 0 none 0 0 none 0 0 none 0 0 0 0) 53 (0, 0))) := blk11 hb R0.out
          have N1 : Hid (Below w0.drew.heap.size w0.drew w1) := hb
          clear ht hb
          try go_wp2_with fail
          refine hK.out _ _ (⟨B1.out, ⟨_, rfl, X1.out⟩, R1.out⟩) (fun hHeld => ?_)
          clear hK K'
          try simp only [Act.put, gA, gS, gZ, sA, sZ, sS]
          refine tk 9 (.pointer (some ⟨w.heap.size, 5, none⟩)) rfl (.inl ⟨by rfl, ?_⟩) ?_
          · intro w9 hSw
            try dsimp only at hSw
            go_simp
            all_goals try decide
            all_goals try assumption
            all_goals try omega
          try simp only [Act.put, gA, gS, gZ, sA, sZ, sS]
          refine wpAnyH_ready (rs := [5]) (by kernel_rfl) (by simp) ?_
          refine (AllReadyH.cons rfl (fun K' hK => ?y19) AllReadyH.nil)
          case' y19 =>
            rw [if_pos (by rfl)]
            simp only [gA, gS, gZ]
            go_wp2_with fail
            refine (HC2.out _ B1.out).mono ?_
            rintro e w2 ⟨⟨a2, c2, rfl, ht⟩, hb⟩
            have T2 : Hid (Told _ w2 a2 _ c2 _) := ht
            have B2 : Hid (Below w.heap.size w w2) := Below.andThen B1.out hb
            have X2 : Hid (w2.heap[w.heap.size]? = some (.cells (enC i s nm t rt d ld cd l ll cl h lh ch tg gr) 53 (0, 0))) := blk11 hb X1.out
            have R2 : Hid (w2.heap[w.heap.size + 1]? = some (.cells (enC 0 0 ⟨#[]⟩ 0 0 none 0 0 none 0 0 none 0 0 0 0) 53 (0, 0))) := blk11 hb R1.out
            have N2 : Hid (Below w1.heap.size w1 w2) := hb
            clear ht hb
            try go_wp2_with fail
            refine hK.out _ _ (⟨B2.out, ⟨_, rfl, X2.out⟩, R2.out⟩) (fun hHeld => ?_)
            clear hK K'
            try simp only [Act.put, gA, gS, gZ, sA, sZ, sS]
            refine wpAnyH_ready (rs := [8]) (by kernel_rfl) (by simp) ?_
            refine (AllReadyH.cons rfl (fun K' hK => ?y18) AllReadyH.nil)
            case' y18 =>
              rw [if_pos (by rfl)]
              simp only [gA, gS, gZ]
              go_wp2_with fail
              refine (HC3.out _ B2.out).mono ?_
              rintro e w3 ⟨⟨a3, c3, rfl, ht⟩, hb⟩
              have T3 : Hid (Told _ w3 a3 _ c3 _) := ht
              have B3 : Hid (Below w.heap.size w w3) := Below.andThen B2.out hb
              have X3 : Hid (w3.heap[w.heap.size]? = some (.cells (enC i s nm t rt d ld cd l ll cl h lh ch tg gr) 53 (0, 0))) := blk11 hb X2.out
              have R3 : Hid (w3.heap[w.heap.size + 1]? = some (.cells (enC 0 0 ⟨#[]⟩ 0 0 none 0 0 none 0 0 none 0 0 0 0) 53 (0, 0))) := blk11 hb R2.out
              have N3 : Hid (Below w2.heap.size w2 w3) := hb
              clear ht hb
              try go_wp2_with fail
              refine hK.out _ _ (⟨B3.out, ⟨_, rfl, X3.out⟩, R3.out⟩) (fun hHeld => ?_)
              clear hK K'
              try simp only [Act.put, gA, gS, gZ, sA, sZ, sS]
    case' y33 =>
      rw [if_pos (by rfl)]
      simp only [gA, gS, gZ]
      have cc : w0.drew.cell? ⟨w.heap.size, 7, none⟩ = some (.slice h lh ch) := by rw [cell_of_row _ _ 7 _ _ _ X0.out]; rfl
      go_wp2_with fail
      refine hK.out _ _ (hHeld) (fun hHeld => ?_)
      clear hK K'
      try simp only [Act.put, gA, gS, gZ, sA, sZ, sS]
      clear cc
      refine wpAnyH_ready (rs := [2, 4]) (by kernel_rfl) (by simp) ?_
      refine (AllReadyH.cons rfl (fun K' hK => ?y29) (AllReadyH.cons rfl (fun K' hK => ?y30) AllReadyH.nil))
      case' y29 =>
        rw [if_pos (by rfl)]
        simp only [gA, gS, gZ]
        go_wp2_with fail
        refine (HC1.out _ B0.out).mono ?_
        rintro e w1 ⟨⟨a1, c1, rfl, ht⟩, hb⟩
        have T1 : Hid (Told _ w1 a1 _ c1 _) := ht
        have B1 : Hid (Below w.heap.size w w1) := Below.andThen B0.out hb
        have X1 : Hid (w1.heap[w.heap.size]? = some (.cells (enC i s nm t rt d ld cd l ll cl h lh ch tg gr) 53 (0, 0))) := blk11 hb X0.out
        have R1 : Hid (w1.heap[w.heap.size + 1]? = some (.cells (enC 0 0 ⟨#[]⟩ 0 0 none 0 0 none 0 0 none 0 0 0 0) 53 (0, 0))) := blk11 hb R0.out
        have N1 : Hid (Below w0.drew.heap.size w0.drew w1) := hb
        clear ht hb
        try go_wp2_with fail
        refine hK.out _ _ (⟨B1.out, ⟨_, rfl, X1.out⟩, R1.out⟩) (fun hHeld => ?_)
        clear hK K'
        try simp only [Act.put, gA, gS, gZ, sA, sZ, sS]
        refine wpAnyH_ready (rs := [4]) (by kernel_rfl) (by simp) ?_
        refine (AllReadyH.cons rfl (fun K' hK => ?y25) AllReadyH.nil)
        case' y25 =>
          rw [if_pos (by rfl)]
          simp only [gA, gS, gZ]
          have cc : w1.cell? ⟨w.heap.size, 6, none⟩ = some (.slice l ll cl) := by rw [cell_of_row _ _ 6 _ _ _ X1.out]; rfl
          go_wp2_with fail
          refine hK.out _ _ (hHeld) (fun hHeld => ?_)
          clear hK K'
          try simp only [Act.put, gA, gS, gZ, sA, sZ, sS]
          clear cc
          refine tk 9 (.pointer (some ⟨w.heap.size, 5, none⟩)) rfl (.inl ⟨by rfl, ?_⟩) ?_
          · intro w9 hSw
            try dsimp only at hSw
            go_simp
            all_goals try decide
            all_goals try assumption
            all_goals try omega
          try simp only [Act.put, gA, gS, gZ, sA, sZ, sS]
          refine wpAnyH_ready (rs := [5]) (by kernel_rfl) (by simp) ?_
          refine (AllReadyH.cons rfl (fun K' hK => ?y24) AllReadyH.nil)
          case' y24 =>
            rw [if_pos (by rfl)]
            simp only [gA, gS, gZ]
            go_wp2_with fail
            refine (HC2.out _ B1.out).mono ?_
            rintro e w2 ⟨⟨a2, c2, rfl, ht⟩, hb⟩
            have T2 : Hid (Told _ w2 a2 _ c2 _) := ht
            have B2 : Hid (Below w.heap.size w w2) := Below.andThen B1.out hb
            have X2 : Hid (w2.heap[w.heap.size]? = some (.cells (enC i s nm t rt d ld cd l ll cl h lh ch tg gr) 53 (0, 0))) := blk11 hb X1.out
            have R2 : Hid (w2.heap[w.heap.size + 1]? = some (.cells (enC 0 0 ⟨#[]⟩ 0 0 none 0 0 none 0 0 none 0 0 0 0) 53 (0, 0))) := blk11 hb R1.out
            have N2 : Hid (Below w1.heap.size w1 w2) := hb
            clear ht hb
            try go_wp2_with fail
            refine hK.out _ _ (⟨B2.out, ⟨_, rfl, X2.out⟩, R2.out⟩) (fun hHeld => ?_)
            clear hK K'
            try simp only [Act.put, gA, gS, gZ, sA, sZ, sS]
            refine wpAnyH_ready (rs := [8]) (by kernel_rfl) (by simp) ?_
            refine (AllReadyH.cons rfl (fun K' hK => ?y23) AllReadyH.nil)
            case' y23 =>
              rw [if_pos (by rfl)]
              simp only [gA, gS, gZ]
              go_wp2_with fail
              refine (HC3.out _ B2.out).mono ?_
              rintro e w3 ⟨⟨a3, c3, rfl, ht⟩, hb⟩
              have T3 : Hid (Told _ w3 a3 _ c3 _) := ht
              have B3 : Hid (Below w.heap.size w w3) := Below.andThen B2.out hb
              have X3 : Hid (w3.heap[w.heap.size]? = some (.cells (enC i s nm t rt d ld cd l ll cl h lh ch tg gr) 53 (0, 0))) := blk11 hb X2.out
              have R3 : Hid (w3.heap[w.heap.size + 1]? = some (.cells (enC 0 0 ⟨#[]⟩ 0 0 none 0 0 none 0 0 none 0 0 0 0) 53 (0, 0))) := blk11 hb R2.out
              have N3 : Hid (Below w2.heap.size w2 w3) := hb
              clear ht hb
              try go_wp2_with fail
              refine hK.out _ _ (⟨B3.out, ⟨_, rfl, X3.out⟩, R3.out⟩) (fun hHeld => ?_)
              clear hK K'
              try simp only [Act.put, gA, gS, gZ, sA, sZ, sS]
      case' y30 =>
        rw [if_pos (by rfl)]
        simp only [gA, gS, gZ]
        have cc : w0.drew.cell? ⟨w.heap.size, 6, none⟩ = some (.slice l ll cl) := by rw [cell_of_row _ _ 6 _ _ _ X0.out]; rfl
        go_wp2_with fail
        refine hK.out _ _ (hHeld) (fun hHeld => ?_)
        clear hK K'
        try simp only [Act.put, gA, gS, gZ, sA, sZ, sS]
        clear cc
        refine wpAnyH_ready (rs := [2]) (by kernel_rfl) (by simp) ?_
        refine (AllReadyH.cons rfl (fun K' hK => ?y28) AllReadyH.nil)
        case' y28 =>
          rw [if_pos (by rfl)]
          simp only [gA, gS, gZ]
          go_wp2_with fail
          refine (HC1.out _ B0.out).mono ?_
          rintro e w1 ⟨⟨a1, c1, rfl, ht⟩, hb⟩
          have T1 : Hid (Told _ w1 a1 _ c1 _) := ht
          have B1 : Hid (Below w.heap.size w w1) := Below.andThen B0.out hb
          have X1 : Hid (w1.heap[w.heap.size]? = some (.cells (enC i s nm t rt d ld cd l ll cl h lh ch tg gr) 53 (0, 0))) := blk11 hb X0.out
          have R1 : Hid (w1.heap[w.heap.size + 1]? = some (.cells (enC 0 0 ⟨#[]⟩ 0 0 none 0 0 none 0 0 none 0 0 0 0) 53 (0, 0))) := blk11 hb R0.out
          have N1 : Hid (Below w0.drew.heap.size w0.drew w1) := hb
          clear ht hb
          try go_wp2_with fail
          refine hK.out _ _ (⟨B1.out, ⟨_, rfl, X1.out⟩, R1.out⟩) (fun hHeld => ?_)
          clear hK K'
          try simp only [Act.put, gA, gS, gZ, sA, sZ, sS]
          refine tk 9 (.pointer (some ⟨w.heap.size, 5, none⟩)) rfl (.inl ⟨by rfl, ?_⟩) ?_
          · intro w9 hSw
            try dsimp only at hSw
            go_simp
            all_goals try decide
            all_goals try assumption
            all_goals try omega
          try simp only [Act.put, gA, gS, gZ, sA, sZ, sS]
          refine wpAnyH_ready (rs := [5]) (by kernel_rfl) (by simp) ?_
          refine (AllReadyH.cons rfl (fun K' hK => ?y27) AllReadyH.nil)
          case' y27 =>
            rw [if_pos (by rfl)]
            simp only [gA, gS, gZ]
            go_wp2_with fail
            refine (HC2.out _ B1.out).mono ?_
            rintro e w2 ⟨⟨a2, c2, rfl, ht⟩, hb⟩
            have T2 : Hid (Told _ w2 a2 _ c2 _) := ht
            have B2 : Hid (Below w.heap.size w w2) := Below.andThen B1.out hb
            have X2 : Hid (w2.heap[w.heap.size]? = some (.cells (enC i s nm t rt d ld cd l ll cl h lh ch tg gr) 53 (0, 0))) := blk11 hb X1.out
            have R2 : Hid (w2.heap[w.heap.size + 1]? = some (.cells (enC 0 0 ⟨#[]⟩ 0 0 none 0 0 none 0 0 none 0 0 0 0) 53 (0, 0))) := blk11 hb R1.out
            have N2 : Hid (Below w1.heap.size w1 w2) := hb
            clear ht hb
            try go_wp2_with fail
            refine hK.out _ _ (⟨B2.out, ⟨_, rfl, X2.out⟩, R2.out⟩) (fun hHeld => ?_)
            clear hK K'
            try simp only [Act.put, gA, gS, gZ, sA, sZ, sS]
            refine wpAnyH_ready (rs := [8]) (by kernel_rfl) (by simp) ?_
            refine (AllReadyH.cons rfl (fun K' hK => ?y26) AllReadyH.nil)
            case' y26 =>
              rw [if_pos (by rfl)]
              simp only [gA, gS, gZ]
              go_wp2_with fail
              refine (HC3.out _ B2.out).mono ?_
              rintro e w3 ⟨⟨a3, c3, rfl, ht⟩, hb⟩
              have T3 : Hid (Told _ w3 a3 _ c3 _) := ht
              have B3 : Hid (Below w.heap.size w w3) := Below.andThen B2.out hb
              have X3 : Hid (w3.heap[w.heap.size]? = some (.cells (enC i s nm t rt d ld cd l ll cl h lh ch tg gr) 53 (0, 0))) := blk11 hb X2.out
              have R3 : Hid (w3.heap[w.heap.size + 1]? = some (.cells (enC 0 0 ⟨#[]⟩ 0 0 none 0 0 none 0 0 none 0 0 0 0) 53 (0, 0))) := blk11 hb R2.out
              have N3 : Hid (Below w2.heap.size w2 w3) := hb
              clear ht hb
              try go_wp2_with fail
              refine hK.out _ _ (⟨B3.out, ⟨_, rfl, X3.out⟩, R3.out⟩) (fun hHeld => ?_)
              clear hK K'
              try simp only [Act.put, gA, gS, gZ, sA, sZ, sS]
  case' y66 =>
    rw [if_pos (by rfl)]
    simp only [gA, gS, gZ]
    have cc : w0.drew.cell? ⟨w.heap.size, 6, none⟩ = some (.slice l ll cl) := by rw [cell_of_row _ _ 6 _ _ _ X0.out]; rfl
    go_wp2_with fail
    refine hK.out _ _ (hHeld) (fun hHeld => ?_)
    clear hK K'
    try simp only [Act.put, gA, gS, gZ, sA, sZ, sS]
    clear cc
    refine wpAnyH_ready (rs := [1, 7]) (by kernel_rfl) (by simp) ?_
    refine (AllReadyH.cons rfl (fun K' hK => ?y49) (AllReadyH.cons rfl (fun K' hK => ?y50) AllReadyH.nil))
    case' y49 =>
      rw [if_pos (by rfl)]
      simp only [gA, gS, gZ]
      have cc : w0.drew.cell? ⟨w.heap.size, 5, none⟩ = some (.slice d ld cd) := by rw [cell_of_row _ _ 5 _ _ _ X0.out]; rfl
      go_wp2_with fail
      refine hK.out _ _ (hHeld) (fun hHeld => ?_)
      clear hK K'
      try simp only [Act.put, gA, gS, gZ, sA, sZ, sS]
      clear cc
      refine wpAnyH_ready (rs := [2, 7]) (by kernel_rfl) (by simp) ?_
      refine (AllReadyH.cons rfl (fun K' hK => ?y43) (AllReadyH.cons rfl (fun K' hK => ?y44) AllReadyH.nil))
      case' y43 =>
        rw [if_pos (by rfl)]
        simp only [gA, gS, gZ]
        go_wp2_with fail
        refine (HC1.out _ B0.out).mono ?_
        rintro e w1 ⟨⟨a1, c1, rfl, ht⟩, hb⟩
        have T1 : Hid (Told _ w1 a1 _ c1 _) := ht
        have B1 : Hid (Below w.heap.size w w1) := Below.andThen B0.out hb
        have X1 : Hid (w1.heap[w.heap.size]? = some (.cells (enC i s nm t rt d ld cd l ll cl h lh ch tg gr) 53 (0, 0))) := blk11 hb X0.out
        have R1 : Hid (w1.heap[w.heap.size + 1]? = some (.cells (enC 0 0 ⟨#[]⟩ 0 0 none 0 0 none 0 0 none 0 0 0 0) 53 (0, 0))) := blk11 hb R0.out
        have N1 : Hid (Below w0.drew.heap.size w0.drew w1) := hb
        clear ht hb
        try go_wp2_with fail
        refine hK.out _ _ (⟨B1.out, ⟨_, rfl, X1.out⟩, R1.out⟩) (fun hHeld => ?_)
        clear hK K'
        try simp only [Act.put, gA, gS, gZ, sA, sZ, sS]
        refine wpAnyH_ready (rs := [5, 7]) (by kernel_rfl) (by simp) ?_
        refine (AllReadyH.cons rfl (fun K' hK => ?y38) (AllReadyH.cons rfl (fun K' hK => ?y39) AllReadyH.nil))
        case' y38 =>
          rw [if_pos (by rfl)]
          simp only [gA, gS, gZ]
          go_wp2_with fail
          refine (HC2.out _ B1.out).mono ?_
          rintro e w2 ⟨⟨a2, c2, rfl, ht⟩, hb⟩
          have T2 : Hid (Told _ w2 a2 _ c2 _) := ht
          have B2 : Hid (Below w.heap.size w w2) := Below.andThen B1.out hb
          have X2 : Hid (w2.heap[w.heap.size]? = some (.cells (enC i s nm t rt d ld cd l ll cl h lh ch tg gr) 53 (0, 0))) := blk11 hb X1.out
          have R2 : Hid (w2.heap[w.heap.size + 1]? = some (.cells (enC 0 0 ⟨#[]⟩ 0 0 none 0 0 none 0 0 none 0 0 0 0) 53 (0, 0))) := blk11 hb R1.out
          have N2 : Hid (Below w1.heap.size w1 w2) := hb
          clear ht hb
          try go_wp2_with fail
          refine hK.out _ _ (⟨B2.out, ⟨_, rfl, X2.out⟩, R2.out⟩) (fun hHeld => ?_)
          clear hK K'
          try simp only [Act.put, gA, gS, gZ, sA, sZ, sS]
          refine wpAnyH_ready (rs := [7]) (by kernel_rfl) (by simp) ?_
          refine (AllReadyH.cons rfl (fun K' hK => ?y35) AllReadyH.nil)
          case' y35 =>
            rw [if_pos (by rfl)]
            simp only [gA, gS, gZ]
            have cc : w2.cell? ⟨w.heap.size, 7, none⟩ = some (.slice h lh ch) := by rw [cell_of_row _ _ 7 _ _ _ X2.out]; rfl
            go_wp2_with fail
            refine hK.out _ _ (hHeld) (fun hHeld => ?_)
            clear hK K'
            try simp only [Act.put, gA, gS, gZ, sA, sZ, sS]
            clear cc
            refine tk 9 (.pointer (some ⟨w.heap.size, 5, none⟩)) rfl (.inl ⟨by rfl, ?_⟩) ?_
            · intro w9 hSw
              try dsimp only at hSw
              go_simp
              all_goals try decide
              all_goals try assumption
              all_goals try omega
            try simp only [Act.put, gA, gS, gZ, sA, sZ, sS]
            refine wpAnyH_ready (rs := [8]) (by kernel_rfl) (by simp) ?_
            refine (AllReadyH.cons rfl (fun K' hK => ?y34) AllReadyH.nil)
            case' y34 =>
              rw [if_pos (by rfl)]
              simp only [gA, gS, gZ]
              go_wp2_with fail
              refine (HC3.out _ B2.out).mono ?_
              rintro e w3 ⟨⟨a3, c3, rfl, ht⟩, hb⟩
              have T3 : Hid (Told _ w3 a3 _ c3 _) := ht
              have B3 : Hid (Below w.heap.size w w3) := Below.andThen B2.out hb
              have X3 : Hid (w3.heap[w.heap.size]? = some (.cells (enC i s nm t rt d ld cd l ll cl h lh ch tg gr) 53 (0, 0))) := blk11 hb X2.out
              have R3 : Hid (w3.heap[w.heap.size + 1]? = some (.cells (enC 0 0 ⟨#[]⟩ 0 0 none 0 0 none 0 0 none 0 0 0 0) 53 (0, 0))) := blk11 hb R2.out
              have N3 : Hid (Below w2.heap.size w2 w3) := hb
              clear ht hb
              try go_wp2_with fail
              refine hK.out _ _ (⟨B3.out, ⟨_, rfl, X3.out⟩, R3.out⟩) (fun hHeld => ?_)
              clear hK K'
              try simp only [Act.put, gA, gS, gZ, sA, sZ, sS]
        case' y39 =>
          rw [if_pos (by rfl)]
          simp only [gA, gS, gZ]
          have cc : w1.cell? ⟨w.heap.size, 7, none⟩ = some (.slice h lh ch) := by rw [cell_of_row _ _ 7 _ _ _ X1.out]; rfl
          go_wp2_with fail
          refine hK.out _ _ (hHeld) (fun hHeld => ?_)
          clear hK K'
          try simp only [Act.put, gA, gS, gZ, sA, sZ, sS]
          clear cc
          refine tk 9 (.pointer (some ⟨w.heap.size, 5, none⟩)) rfl (.inl ⟨by rfl, ?_⟩) ?_
          · intro w9 hSw
            try dsimp only at hSw
            go_simp
            all_goals try decide
            all_goals try assumption
            all_goals try omega
          try simp only [Act.put, gA, gS, gZ, sA, sZ, sS]
          refine wpAnyH_ready (rs := [5]) (by kernel_rfl) (by simp) ?_
          refine (AllReadyH.cons rfl (fun K' hK => ?y37) AllReadyH.nil)
          case' y37 =>
            rw [if_pos (by rfl)]
            simp only [gA, gS, gZ]
            go_wp2_with fail
            refine (HC2.out _ B1.out).mono ?_
            rintro e w2 ⟨⟨a2, c2, rfl, ht⟩, hb⟩
            have T2 : Hid (Told _ w2 a2 _ c2 _) := ht
            have B2 : Hid (Below w.heap.size w w2) := Below.andThen B1.out hb
            have X2 : Hid (w2.heap[w.heap.size]? = some (.cells (enC i s nm t rt d ld cd l ll cl h lh ch tg gr) 53 (0, 0))) := blk11 hb X1.out
            have R2 : Hid (w2.heap[w.heap.size + 1]? = some (.cells (enC 0 0 ⟨#[]⟩ 0 0 none 0 0 none 0 0 none 0 0 0 0) 53 (0, 0))) := blk11 hb R1.out
            have N2 : Hid (Below w1.heap.size w1 w2) := hb
            clear ht hb
            try go_wp2_with fail
            refine hK.out _ _ (⟨B2.out, ⟨_, rfl, X2.out⟩, R2.out⟩) (fun hHeld => ?_)
            clear hK K'
            try simp only [Act.put, gA, gS, gZ, sA, sZ, sS]
            refine wpAnyH_ready (rs := [8]) (by kernel_rfl) (by simp) ?_
            refine (AllReadyH.cons rfl (fun K' hK => ?y36) AllReadyH.nil)
            case' y36 =>
              rw [if_pos (by rfl)]
              simp only [gA, gS, gZ]
              go_wp2_with fail
              refine (HC3.out _ B2.out).mono ?_
              rintro e w3 ⟨⟨a3, c3, rfl, ht⟩, hb⟩
              have T3 : Hid (Told _ w3 a3 _ c3 _) := ht
              have B3 : Hid (Below w.heap.size w w3) := Below.andThen B2.out hb
              have X3 : Hid (w3.heap[w.heap.size]? = some (.cells (enC i s nm t rt d ld cd l ll cl h lh ch tg gr) 53 (0, 0))) := blk11 hb X2.out
              have R3 : Hid (w3.heap[w.heap.size + 1]? = some (.cells (enC 0 0 ⟨#[]⟩ 0 0 none 0 0 none 0 0 none 0 0 0 0) 53 (0, 0))) := blk11 hb R2.out
              have N3 : Hid (Below w2.heap.size w2 w3) := hb
              clear ht hb
              try go_wp2_with fail
              refine hK.out _ _ (⟨B3.out, ⟨_, rfl, X3.out⟩, R3.out⟩) (fun hHeld => ?_)
              clear hK K'
              try simp only [Act.put, gA, gS, gZ, sA, sZ, sS]
      case' y44 =>
        rw [if_pos (by rfl)]
        simp only [gA, gS, gZ]
        have cc : w0.drew.cell? ⟨w.heap.size, 7, none⟩ = some (.slice h lh ch) := by rw [cell_of_row _ _ 7 _ _ _ X0.out]; rfl
        go_wp2_with fail
        refine hK.out _ _ (hHeld) (fun hHeld => ?_)
        clear hK K'
        try simp only [Act.put, gA, gS, gZ, sA, sZ, sS]
        clear cc
        refine wpAnyH_ready (rs := [2]) (by kernel_rfl) (by simp) ?_
        refine (AllReadyH.cons rfl (fun K' hK => ?y42) AllReadyH.nil)
        case' y42 =>
          rw [if_pos (by rfl)]
          simp only [gA, gS, gZ]
          go_wp2_with fail
          refine (HC1.out _ B0.out).mono ?_
          rintro e w1 ⟨⟨a1, c1, rfl, ht⟩, hb⟩
          have T1 : Hid (Told _ w1 a1 _ c1 _) := ht
          have B1 : Hid (Below w.heap.size w w1) := Below.andThen B0.out hb
          have X1 : Hid (w1.heap[w.heap.size]? = some (.cells (enC i s nm t rt d ld cd l ll cl h lh ch tg gr) 53 (0, 0))) := blk11 hb X0.out
          have R1 : Hid (w1.heap[w.heap.size + 1]? = some (.cells (enC 0 0 ⟨#[]⟩ 0 0 none 0 0 none 0 0 none 0 0 0 0) 53 (0, 0))) := blk11 hb R0.out
          have N1 : Hid (Below w0.drew.heap.size w0.drew w1) := hb
          clear ht hb
          try go_wp2_with fail
          refine hK.out _ _ (⟨B1.out, ⟨_, rfl, X1.out⟩, R1.out⟩) (fun hHeld => ?_)
          clear hK K'
          try simp only [Act.put, gA, gS, gZ, sA, sZ, sS]
          refine tk 9 (.pointer (some ⟨w.heap.size, 5, none⟩)) rfl (.inl ⟨by rfl, ?_⟩) ?_
          · intro w9 hSw
            try dsimp only at hSw
            go_simp
            all_goals try decide
            all_goals try assumption
            all_goals try omega
          try simp only [Act.put, gA, gS, gZ, sA, sZ, sS]
          refine wpAnyH_ready (rs := [5]) (by kernel_rfl) (by simp) ?_
          refine (AllReadyH.cons rfl (fun K' hK => ?y41) AllReadyH.nil)
          case' y41 =>
            rw [if_pos (by rfl)]
            simp only [gA, gS, gZ]
            go_wp2_with fail
            refine (HC2.out _ B1.out).mono ?_
            rintro e w2 ⟨⟨a2, c2, rfl, ht⟩, hb⟩
            have T2 : Hid (Told _ w2 a2 _ c2 _) := ht
            have B2 : Hid (Below w.heap.size w w2) := Below.andThen B1.out hb
            have X2 : Hid (w2.heap[w.heap.size]? = some (.cells (enC i s nm t rt d ld cd l ll cl h lh ch tg gr) 53 (0, 0))) := blk11 hb X1.out
            have R2 : Hid (w2.heap[w.heap.size + 1]? = some (.cells (enC 0 0 ⟨#[]⟩ 0 0 none 0 0 none 0 0 none 0 0 0 0) 53 (0, 0))) := blk11 hb R1.out
            have N2 : Hid (Below w1.heap.size w1 w2) := hb
            clear ht hb
            try go_wp2_with fail
            refine hK.out _ _ (⟨B2.out, ⟨_, rfl, X2.out⟩, R2.out⟩) (fun hHeld => ?_)
            clear hK K'
            try simp only [Act.put, gA, gS, gZ, sA, sZ, sS]
            refine wpAnyH_ready (rs := [8]) (by kernel_rfl) (by simp) ?_
            refine (AllReadyH.cons rfl (fun K' hK => ?y40) AllReadyH.nil)
            case' y40 =>
              rw [if_pos (by rfl)]
              simp only [gA, gS, gZ]
              go_wp2_with fail
              refine (HC3.out _ B2.out).mono ?_
              rintro e w3 ⟨⟨a3, c3, rfl, ht⟩, hb⟩
              have T3 : Hid (Told _ w3 a3 _ c3 _) := ht
              have B3 : Hid (Below w.heap.size w w3) := Below.andThen B2.out hb
              have X3 : Hid (w3.heap[w.heap.size]? = some (.cells (enC i s nm t rt d ld cd l ll cl h lh ch tg gr) 53 (0, 0))) := blk11 hb X2.out
              have R3 : Hid (w3.heap[w.heap.size + 1]? = some (.cells (enC 0 0 ⟨#[]⟩ 0 0 none 0 0 none 0 0 none 0 0 0 0) 53 (0, 0))) := blk11 hb R2.out
              have N3 : Hid (Below w2.heap.size w2 w3) := hb
              clear ht hb
              try go_wp2_with fail
              refine hK.out _ _ (⟨B3.out, ⟨_, rfl, X3.out⟩, R3.out⟩) (fun hHeld => ?_)
              clear hK K'
              try simp only [Act.put, gA, gS, gZ, sA, sZ, sS]
    case' y50 =>
      rw [if_pos (by rfl)]
      simp only [gA, gS, gZ]
      have cc : w0.drew.cell? ⟨w.heap.size, 7, none⟩ = some (.slice h lh ch) := by rw [cell_of_row _ _ 7 _ _ _ X0.out]; rfl
      go_wp2_with fail
      refine hK.out _ _ (hHeld) (fun hHeld => ?_)
      clear hK K'
      try simp only [Act.put, gA, gS, gZ, sA, sZ, sS]
      clear cc
      refine wpAnyH_ready (rs := [1]) (by kernel_rfl) (by simp) ?_
      refine (AllReadyH.cons rfl (fun K' hK => ?y48) AllReadyH.nil)
      case' y48 =>
        rw [if_pos (by rfl)]
        simp only [gA, gS, gZ]
        have cc : w0.drew.cell? ⟨w.heap.size, 5, none⟩ = some (.slice d ld cd) := by rw [cell_of_row _ _ 5 _ _ _ X0.out]; rfl
        go_wp2_with fail
        refine hK.out _ _ (hHeld) (fun hHeld => ?_)
        clear hK K'
        try simp only [Act.put, gA, gS, gZ, sA, sZ, sS]
        clear cc
        refine wpAnyH_ready (rs := [2]) (by kernel_rfl) (by simp) ?_
        refine (AllReadyH.cons rfl (fun K' hK => ?y47) AllReadyH.nil)
        case' y47 =>
          rw [if_pos (by rfl)]
          simp only [gA, gS, gZ]
          go_wp2_with fail
          refine (HC1.out _ B0.out).mono ?_
          rintro e w1 ⟨⟨a1, c1, rfl, ht⟩, hb⟩
          have T1 : Hid (Told _ w1 a1 _ c1 _) := ht
          have B1 : Hid (Below w.heap.size w w1) := Below.andThen B0.out hb
          have X1 : Hid (w1.heap[w.heap.size]? = some (.cells (enC i s nm t rt d ld cd l ll cl h lh ch tg gr) 53 (0, 0))) := blk11 hb X0.out
          have R1 : Hid (w1.heap[w.heap.size + 1]? = some (.cells (enC 0 0 ⟨#[]⟩ 0 0 none 0 0 none 0 0 none 0 0 0 0) 53 (0, 0))) := blk11 hb R0.out
          have N1 : Hid (Below w0.drew.heap.size w0.drew w1) := hb
          clear ht hb
          try go_wp2_with fail
          refine hK.out _ _ (⟨B1.out, ⟨_, rfl, X1.out⟩, R1.out⟩) (fun hHeld => ?_)
          clear hK K'
          try simp only [Act.put, gA, gS, gZ, sA, sZ, sS]
          refine tk 9 (.pointer (some ⟨w.heap.size, 5, none⟩)) rfl (.inl ⟨by rfl, ?_⟩) ?_
          · intro w9 hSw
            try dsimp only at hSw
            go_simp
            all_goals try decide
            all_goals try assumption
            all_goals try omega
          try simp only [Act.put, gA, gS, gZ, sA, sZ, sS]
          refine wpAnyH_ready (rs := [5]) (by kernel_rfl) (by simp) ?_
          refine (AllReadyH.cons rfl (fun K' hK => ?y46) AllReadyH.nil)
          case' y46 =>
            rw [if_pos (by rfl)]
            simp only [gA, gS, gZ]
            go_wp2_with fail
            refine (HC2.out _ B1.out).mono ?_
            rintro e w2 ⟨⟨a2, c2, rfl, ht⟩, hb⟩
            have T2 : Hid (Told _ w2 a2 _ c2 _) := ht
            have B2 : Hid (Below w.heap.size w w2) := Below.andThen B1.out hb
            have X2 : Hid (w2.heap[w.heap.size]? = some (.cells (enC i s nm t rt d ld cd l ll cl h lh ch tg gr) 53 (0, 0))) := blk11 hb X1.out
            have R2 : Hid (w2.heap[w.heap.size + 1]? = some (.cells (enC 0 0 ⟨#[]⟩ 0 0 none 0 0 none 0 0 none 0 0 0 0) 53 (0, 0))) := blk11 hb R1.out
            have N2 : Hid (Below w1.heap.size w1 w2) := hb
            clear ht hb
            try go_wp2_with fail
            refine hK.out _ _ (⟨B2.out, ⟨_, rfl, X2.out⟩, R2.out⟩) (fun hHeld => ?_)
            clear hK K'
            try simp only [Act.put, gA, gS, gZ, sA, sZ, sS]
            refine wpAnyH_ready (rs := [8]) (by kernel_rfl) (by simp) ?_
            refine (AllReadyH.cons rfl (fun K' hK => ?y45) AllReadyH.nil)
            case' y45 =>
              rw [if_pos (by rfl)]
              simp only [gA, gS, gZ]
              go_wp2_with fail
              refine (HC3.out _ B2.out).mono ?_
              rintro e w3 ⟨⟨a3, c3, rfl, ht⟩, hb⟩
              have T3 : Hid (Told _ w3 a3 _ c3 _) := ht
              have B3 : Hid (Below w.heap.size w w3) := Below.andThen B2.out hb
              have X3 : Hid (w3.heap[w.heap.size]? = some (.cells (enC i s nm t rt d ld cd l ll cl h lh ch tg gr) 53 (0, 0))) := blk11 hb X2.out
              have R3 : Hid (w3.heap[w.heap.size + 1]? = some (.cells (enC 0 0 ⟨#[]⟩ 0 0 none 0 0 none 0 0 none 0 0 0 0) 53 (0, 0))) := blk11 hb R2.out
              have N3 : Hid (Below w2.heap.size w2 w3) := hb
              clear ht hb
              try go_wp2_with fail
              refine hK.out _ _ (⟨B3.out, ⟨_, rfl, X3.out⟩, R3.out⟩) (fun hHeld => ?_)
              clear hK K'
              try simp only [Act.put, gA, gS, gZ, sA, sZ, sS]
  case' y67 =>
    rw [if_pos (by rfl)]
    simp only [gA, gS, gZ]
    have cc : w0.drew.cell? ⟨w.heap.size, 7, none⟩ = some (.slice h lh ch) := by rw [cell_of_row _ _ 7 _ _ _ X0.out]; rfl
    go_wp2_with fail
    refine hK.out _ _ (hHeld) (fun hHeld => ?_)
    clear hK K'
    try simp only [Act.put, gA, gS, gZ, sA, sZ, sS]
    clear cc
    refine wpAnyH_ready (rs := [1, 4]) (by kernel_rfl) (by simp) ?_
    refine (AllReadyH.cons rfl (fun K' hK => ?y63) (AllReadyH.cons rfl (fun K' hK => ?y64) AllReadyH.nil))
    case' y63 =>
      rw [if_pos (by rfl)]
      simp only [gA, gS, gZ]
      have cc : w0.drew.cell? ⟨w.heap.size, 5, none⟩ = some (.slice d ld cd) := by rw [cell_of_row _ _ 5 _ _ _ X0.out]; rfl
      go_wp2_with fail
      refine hK.out _ _ (hHeld) (fun hHeld => ?_)
      clear hK K'
      try simp only [Act.put, gA, gS, gZ, sA, sZ, sS]
      clear cc
      refine wpAnyH_ready (rs := [2, 4]) (by kernel_rfl) (by simp) ?_
      refine (AllReadyH.cons rfl (fun K' hK => ?y57) (AllReadyH.cons rfl (fun K' hK => ?y58) AllReadyH.nil))
      case' y57 =>
        rw [if_pos (by rfl)]
        simp only [gA, gS, gZ]
        go_wp2_with fail
        refine (HC1.out _ B0.out).mono ?_
        rintro e w1 ⟨⟨a1, c1, rfl, ht⟩, hb⟩
        have T1 : Hid (Told _ w1 a1 _ c1 _) := ht
        have B1 : Hid (Below w.heap.size w w1) := Below.andThen B0.out hb
        have X1 : Hid (w1.heap[w.heap.size]? = some (.cells (enC i s nm t rt d ld cd l ll cl h lh ch tg gr) 53 (0, 0))) := blk11 hb X0.out
        have R1 : Hid (w1.heap[w.heap.size + 1]? = some (.cells (enC 0 0 ⟨#[]⟩ 0 0 none 0 0 none 0 0 none 0 0 0 0) 53 (0, 0))) := blk11 hb R0.out
        have N1 : Hid (Below w0.drew.heap.size w0.drew w1) := hb
        clear ht hb
        try go_wp2_with fail
        refine hK.out _ _ (⟨B1.out, ⟨_, rfl, X1.out⟩, R1.out⟩) (fun hHeld => ?_)
        clear hK K'
        try simp only [Act.put, gA, gS, gZ, sA, sZ, sS]
        refine wpAnyH_ready (rs := [4]) (by kernel_rfl) (by simp) ?_
        refine (AllReadyH.cons rfl (fun K' hK => ?y53) AllReadyH.nil)
        case' y53 =>
          rw [if_pos (by rfl)]
          simp only [gA, gS, gZ]
          have cc : w1.cell? ⟨w.heap.size, 6, none⟩ = some (.slice l ll cl) := by rw [cell_of_row _ _ 6 _ _ _ X1.out]; rfl
          go_wp2_with fail
          refine hK.out _ _ (hHeld) (fun hHeld => ?_)
          clear hK K'
          try simp only [Act.put, gA, gS, gZ, sA, sZ, sS]
          clear cc
          refine tk 9 (.pointer (some ⟨w.heap.size, 5, none⟩)) rfl (.inl ⟨by rfl, ?_⟩) ?_
          · intro w9 hSw
            try dsimp only at hSw
            go_simp
            all_goals try decide
            all_goals try assumption
            all_goals try omega
          try simp only [Act.put, gA, gS, gZ, sA, sZ, sS]
          refine wpAnyH_ready (rs := [5]) (by kernel_rfl) (by simp) ?_
          refine (AllReadyH.cons rfl (fun K' hK => ?y52) AllReadyH.nil)
          case' y52 =>
            rw [if_pos (by rfl)]
            simp only [gA, gS, gZ]
            go_wp2_with fail
            refine (HC2.out _ B1.out).mono ?_
            rintro e w2 ⟨⟨a2, c2, rfl, ht⟩, hb⟩
            have T2 : Hid (Told _ w2 a2 _ c2 _) := ht
            have B2 : Hid (Below w.heap.size w w2) := Below.andThen B1.out hb
            have X2 : Hid (w2.heap[w.heap.size]? = some (.cells (enC i s nm t rt d ld cd l ll cl h lh ch tg gr) 53 (0, 0))) := blk11 hb X1.out
            have R2 : Hid (w2.heap[w.heap.size + 1]? = some (.cells (enC 0 0 ⟨#[]⟩ 0 0 none 0 0 none 0 0 none 0 0 0 0) 53 (0, 0))) := blk11 hb R1.out
            have N2 : Hid (Below w1.heap.size w1 w2) := hb
            clear ht hb
            try go_wp2_with fail
            refine hK.out _ _ (⟨B2.out, ⟨_, rfl, X2.out⟩, R2.out⟩) (fun hHeld => ?_)
            clear hK K'
            try simp only [Act.put, gA, gS, gZ, sA, sZ, sS]
            refine wpAnyH_ready (rs := [8]) (by kernel_rfl) (by simp) ?_
            refine (AllReadyH.cons rfl (fun K' hK => ?y51) AllReadyH.nil)
            case' y51 =>
              rw [if_pos (by rfl)]
              simp only [gA, gS, gZ]
              go_wp2_with fail
              refine (HC3.out _ B2.out).mono ?_
              rintro e w3 ⟨⟨a3, c3, rfl, ht⟩, hb⟩
              have T3 : Hid (Told _ w3 a3 _ c3 _) := ht
              have B3 : Hid (Below w.heap.size w w3) := Below.andThen B2.out hb
              have X3 : Hid (w3.heap[w.heap.size]? = some (.cells (enC i s nm t rt d ld cd l ll cl h lh ch tg gr) 53 (0, 0))) := blk11 hb X2.out
              have R3 : Hid (w3.heap[w.heap.size + 1]? = some (.cells (enC 0 0 ⟨#[]⟩ 0 0 none 0 0 none 0 0 none 0 0 0 0) 53 (0, 0))) := blk11 hb R2.out
              have N3 : Hid (Below w2.heap.size w2 w3) := hb
              clear ht hb
              try go_wp2_with fail
              refine hK.out _ _ (⟨B3.out, ⟨_, rfl, X3.out⟩, R3.out⟩) (fun hHeld => ?_)
              clear hK K'
              try simp only [Act.put, gA, gS, gZ, sA, sZ, sS]
      case' y58 =>
        rw [if_pos (by rfl)]
        simp only [gA, gS, gZ]
        have cc : w0.drew.cell? ⟨w.heap.size, 6, none⟩ = some (.slice l ll cl) := by rw [cell_of_row _ _ 6 _ _ _ X0.out]; rfl
        go_wp2_with fail
        refine hK.out _ _ (hHeld) (fun hHeld => ?_)
        clear hK K'
        try simp only [Act.put, gA, gS, gZ, sA, sZ, sS]
        clear cc
        refine wpAnyH_ready (rs := [2]) (by kernel_rfl) (by simp) ?_
        refine (AllReadyH.cons rfl (fun K' hK => ?y56) AllReadyH.nil)
        case' y56 =>
          rw [if_pos (by rfl)]
          simp only [gA, gS, gZ]
          go_wp2_with fail
          refine (HC1.out _ B0.out).mono ?_
          rintro e w1 ⟨⟨a1, c1, rfl, ht⟩, hb⟩
          have T1 : Hid (Told _ w1 a1 _ c1 _) := ht
          have B1 : Hid (Below w.heap.size w w1) := Below.andThen B0.out hb
          have X1 : Hid (w1.heap[w.heap.size]? = some (.cells (enC i s nm t rt d ld cd l ll cl h lh ch tg gr) 53 (0, 0))) := blk11 hb X0.out
          have R1 : Hid (w1.heap[w.heap.size + 1]? = some (.cells (enC 0 0 ⟨#[]⟩ 0 0 none 0 0 none 0 0 none 0 0 0 0) 53 (0, 0))) := blk11 hb R0.out
          have N1 : Hid (Below w0.drew.heap.size w0.drew w1) := hb
          clear ht hb
          try go_wp2_with fail
          refine hK.out _ _ (⟨B1.out, ⟨_, rfl, X1.out⟩, R1.out⟩) (fun hHeld => ?_)
          clear hK K'
          try simp only [Act.put, gA, gS, gZ, sA, sZ, sS]
          refine tk 9 (.pointer (some ⟨w.heap.size, 5, none⟩)) rfl (.inl ⟨by rfl, ?_⟩) ?_
          · intro w9 hSw
            try dsimp only at hSw
            go_simp
            all_goals try decide
            all_goals try assumption
            all_goals try omega
          try simp only [Act.put, gA, gS, gZ, sA, sZ, sS]
          refine wpAnyH_ready (rs := [5]) (by kernel_rfl) (by simp) ?_
          refine (AllReadyH.cons rfl (fun K' hK => ?y55) AllReadyH.nil)
          case' y55 =>
            rw [if_pos (by rfl)]
            simp only [gA, gS, gZ]
            go_wp2_with fail
            refine (HC2.out _ B1.out).mono ?_
            rintro e w2 ⟨⟨a2, c2, rfl, ht⟩, hb⟩
            have T2 : Hid (Told _ w2 a2 _ c2 _) := ht
            have B2 : Hid (Below w.heap.size w w2) := Below.andThen B1.out hb
            have X2 : Hid (w2.heap[w.heap.size]? = some (.cells (enC i s nm t rt d ld cd l ll cl h lh ch tg gr) 53 (0, 0))) := blk11 hb X1.out
            have R2 : Hid (w2.heap[w.heap.size + 1]? = some (.cells (enC 0 0 ⟨#[]⟩ 0 0 none 0 0 none 0 0 none 0 0 0 0) 53 (0, 0))) := blk11 hb R1.out
            have N2 : Hid (Below w1.heap.size w1 w2) := hb
            clear ht hb
            try go_wp2_with fail
            refine hK.out _ _ (⟨B2.out, ⟨_, rfl, X2.out⟩, R2.out⟩) (fun hHeld => ?_)
            clear hK K'
            try simp only [Act.put, gA, gS, gZ, sA, sZ, sS]
            refine wpAnyH_ready (rs := [8]) (by kernel_rfl) (by simp) ?_
            refine (AllReadyH.cons rfl (fun K' hK => ?y54) AllReadyH.nil)
            case' y54 =>
              rw [if_pos (by rfl)]
              simp only [gA, gS, gZ]
              go_wp2_with fail
              refine (HC3.out _ B2.out).mono ?_
              rintro e w3 ⟨⟨a3, c3, rfl, ht⟩, hb⟩
              have T3 : Hid (Told _ w3 a3 _ c3 _) := ht
              have B3 : Hid (Below w.heap.size w w3) := Below.andThen B2.out hb
              have X3 : Hid (w3.heap[w.heap.size]? = some (.cells (enC i s nm t rt d ld cd l ll cl h lh ch tg gr) 53 (0, 0))) := blk11 hb X2.out
              have R3 : Hid (w3.heap[w.heap.size + 1]? = some (.cells (enC 0 0 ⟨#[]⟩ 0 0 none 0 0 none 0 0 none 0 0 0 0) 53 (0, 0))) := blk11 hb R2.out
              have N3 : Hid (Below w2.heap.size w2 w3) := hb
              clear ht hb
              try go_wp2_with fail
              refine hK.out _ _ (⟨B3.out, ⟨_, rfl, X3.out⟩, R3.out⟩) (fun hHeld => ?_)
              clear hK K'
              try simp only [Act.put, gA, gS, gZ, sA, sZ, sS]
    case' y64 =>
      rw [if_pos (by rfl)]
      simp only [gA, gS, gZ]
      have cc : w0.drew.cell? ⟨w.heap.size, 6, none⟩ = some (.slice l ll cl) := by rw [cell_of_row _ _ 6 _ _ _ X0.out]; rfl
      go_wp2_with fail
      refine hK.out _ _ (hHeld) (fun hHeld => ?_)
      clear hK K'
      try simp only [Act.put, gA, gS, gZ, sA, sZ, sS]
      clear cc
      refine wpAnyH_ready (rs := [1]) (by kernel_rfl) (by simp) ?_
      refine (AllReadyH.cons rfl (fun K' hK => ?y62) AllReadyH.nil)
      case' y62 =>
        rw [if_pos (by rfl)]
        simp only [gA, gS, gZ]
        have cc : w0.drew.cell? ⟨w.heap.size, 5, none⟩ = some (.slice d ld cd) := by rw [cell_of_row _ _ 5 _ _ _ X0.out]; rfl
        go_wp2_with fail
        refine hK.out _ _ (hHeld) (fun hHeld => ?_)
        clear hK K'
        try simp only [Act.put, gA, gS, gZ, sA, sZ, sS]
        clear cc
        refine wpAnyH_ready (rs := [2]) (by kernel_rfl) (by simp) ?_
        refine (AllReadyH.cons rfl (fun K' hK => ?y61) AllReadyH.nil)
        case' y61 =>
          rw [if_pos (by rfl)]
          simp only [gA, gS, gZ]
          go_wp2_with fail
          refine (HC1.out _ B0.out).mono ?_
          rintro e w1 ⟨⟨a1, c1, rfl, ht⟩, hb⟩
          have T1 : Hid (Told _ w1 a1 _ c1 _) := ht
          have B1 : Hid (Below w.heap.size w w1) := Below.andThen B0.out hb
          have X1 : Hid (w1.heap[w.heap.size]? = some (.cells (enC i s nm t rt d ld cd l ll cl h lh ch tg gr) 53 (0, 0))) := blk11 hb X0.out
          have R1 : Hid (w1.heap[w.heap.size + 1]? = some (.cells (enC 0 0 ⟨#[]⟩ 0 0 none 0 0 none 0 0 none 0 0 0 0) 53 (0, 0))) := blk11 hb R0.out
          have N1 : Hid (Below w0.drew.heap.size w0.drew w1) := hb
          clear ht hb
          try go_wp2_with fail
          refine hK.out _ _ (⟨B1.out, ⟨_, rfl, X1.out⟩, R1.out⟩) (fun hHeld => ?_)
          clear hK K'
          try simp only [Act.put, gA, gS, gZ, sA, sZ, sS]
          refine tk 9 (.pointer (some ⟨w.heap.size, 5, none⟩)) rfl (.inl ⟨by rfl, ?_⟩) ?_
          · intro w9 hSw
            try dsimp only at hSw
            go_simp
            all_goals try decide
            all_goals try assumption
            all_goals try omega
          try simp only [Act.put, gA, gS, gZ, sA, sZ, sS]
          refine wpAnyH_ready (rs := [5]) (by kernel_rfl) (by simp) ?_
          refine (AllReadyH.cons rfl (fun K' hK => ?y60) AllReadyH.nil)
          case' y60 =>
            rw [if_pos (by rfl)]
            simp only [gA, gS, gZ]
            go_wp2_with fail
            refine (HC2.out _ B1.out).mono ?_
            rintro e w2 ⟨⟨a2, c2, rfl, ht⟩, hb⟩
            have T2 : Hid (Told _ w2 a2 _ c2 _) := ht
            have B2 : Hid (Below w.heap.size w w2) := Below.andThen B1.out hb
            have X2 : Hid (w2.heap[w.heap.size]? = some (.cells (enC i s nm t rt d ld cd l ll cl h lh ch tg gr) 53 (0, 0))) := blk11 hb X1.out
            have R2 : Hid (w2.heap[w.heap.size + 1]? = some (.cells (enC 0 0 ⟨#[]⟩ 0 0 none 0 0 none 0 0 none 0 0 0 0) 53 (0, 0))) := blk11 hb R1.out
            have N2 : Hid (Below w1.heap.size w1 w2) := hb
            clear ht hb
            try go_wp2_with fail
            refine hK.out _ _ (⟨B2.out, ⟨_, rfl, X2.out⟩, R2.out⟩) (fun hHeld => ?_)
            clear hK K'
            try simp only [Act.put, gA, gS, gZ, sA, sZ, sS]
            refine wpAnyH_ready (rs := [8]) (by kernel_rfl) (by simp) ?_
            refine (AllReadyH.cons rfl (fun K' hK => ?y59) AllReadyH.nil)
            case' y59 =>
              rw [if_pos (by rfl)]
              simp only [gA, gS, gZ]
              go_wp2_with fail
              refine (HC3.out _ B2.out).mono ?_
              rintro e w3 ⟨⟨a3, c3, rfl, ht⟩, hb⟩
              have T3 : Hid (Told _ w3 a3 _ c3 _) := ht
              have B3 : Hid (Below w.heap.size w w3) := Below.andThen B2.out hb
              have X3 : Hid (w3.heap[w.heap.size]? = some (.cells (enC i s nm t rt d ld cd l ll cl h lh ch tg gr) 53 (0, 0))) := blk11 hb X2.out
              have R3 : Hid (w3.heap[w.heap.size + 1]? = some (.cells (enC 0 0 ⟨#[]⟩ 0 0 none 0 0 none 0 0 none 0 0 0 0) 53 (0, 0))) := blk11 hb R2.out
              have N3 : Hid (Below w2.heap.size w2 w3) := hb
              clear ht hb
              try go_wp2_with fail
              refine hK.out _ _ (⟨B3.out, ⟨_, rfl, X3.out⟩, R3.out⟩) (fun hHeld => ?_)
              clear hK K'
              try simp only [Act.put, gA, gS, gZ, sA, sZ, sS]
  all_goals
    clear HC1 HC2 HC3
    refine wpAnyH_ready (rs := [10]) (by kernel_rfl) (by simp) ?_
    refine AllReadyH.cons rfl (fun K' hK => ?_) AllReadyH.nil
    rw [if_pos (by rfl)]
    simp only [gA, gS, gZ]
    refine wp_store_by 34 _ _ rfl ⟨w.heap.size, 5, none⟩ _ rfl rfl (store_sl _ sizeSl _ w.heap.size 5 a1 ld c1 _ _ (X3.out) (by simp)) ?_
    refine hK.out _ _ (⟨below_setRow hHeld.1 (Nat.le_refl _) _, ⟨_, rfl, setRow_heap _ _ _ (enC i s nm t rt a1 ld c1 l ll cl h lh ch tg gr) _ _ (X3.out)⟩, (setRow_other _ _ _ _ (by omega)).trans hHeld.2.2⟩) (fun hHeld => ?_)
    clear hK K'
    try simp only [Act.put, gA, gS, gZ, sA, sZ, sS]
    have Y1 := setRow_heap _ _ _ (enC i s nm t rt a1 ld c1 l ll cl h lh ch tg gr) _ _ X3.out
    refine tk 11 (.pointer (some ⟨w.heap.size, 6, none⟩)) rfl (.inl ⟨by rfl, ?_⟩) ?_
    · intro w9 hSw
      try dsimp only at hSw
      go_simp
      all_goals try decide
      all_goals try assumption
      all_goals try omega
    try simp only [Act.put, gA, gS, gZ, sA, sZ, sS]
    refine wpAnyH_ready (rs := [12]) (by kernel_rfl) (by simp) ?_
    refine AllReadyH.cons rfl (fun K' hK => ?_) AllReadyH.nil
    rw [if_pos (by rfl)]
    simp only [gA, gS, gZ]
    refine wp_store_by 34 _ _ rfl ⟨w.heap.size, 6, none⟩ _ rfl rfl (store_sl _ sizeSl _ w.heap.size 6 a2 ll c2 _ _ (Y1) (by simp)) ?_
    refine hK.out _ _ (⟨below_setRow hHeld.1 (Nat.le_refl _) _, ⟨_, rfl, setRow_heap _ _ _ (enC i s nm t rt a1 ld c1 a2 ll c2 h lh ch tg gr) _ _ (Y1)⟩, (setRow_other _ _ _ _ (by omega)).trans hHeld.2.2⟩) (fun hHeld => ?_)
    clear hK K'
    try simp only [Act.put, gA, gS, gZ, sA, sZ, sS]
    have Y2 := setRow_heap _ _ _ (enC i s nm t rt a1 ld c1 a2 ll c2 h lh ch tg gr) _ _ Y1
    refine tk 13 (.pointer (some ⟨w.heap.size, 7, none⟩)) rfl (.inl ⟨by rfl, ?_⟩) ?_
    · intro w9 hSw
      try dsimp only at hSw
      go_simp
      all_goals try decide
      all_goals try assumption
      all_goals try omega
    try simp only [Act.put, gA, gS, gZ, sA, sZ, sS]
    refine wpAnyH_ready (rs := [14]) (by kernel_rfl) (by simp) ?_
    refine AllReadyH.cons rfl (fun K' hK => ?_) AllReadyH.nil
    rw [if_pos (by rfl)]
    simp only [gA, gS, gZ]
    refine wp_store_by 34 _ _ rfl ⟨w.heap.size, 7, none⟩ _ rfl rfl (store_sl _ sizeSl _ w.heap.size 7 a3 lh c3 _ _ (Y2) (by simp)) ?_
    refine hK.out _ _ (⟨below_setRow hHeld.1 (Nat.le_refl _) _, ⟨_, rfl, setRow_heap _ _ _ (enC i s nm t rt a1 ld c1 a2 ll c2 a3 lh c3 tg gr) _ _ (Y2)⟩, (setRow_other _ _ _ _ (by omega)).trans hHeld.2.2⟩) (fun hHeld => ?_)
    clear hK K'
    try simp only [Act.put, gA, gS, gZ, sA, sZ, sS]
    have Y3 := setRow_heap _ _ _ (enC i s nm t rt a1 ld c1 a2 ll c2 a3 lh c3 tg gr) _ _ Y2
    refine wpAnyH_done (by kernel_rfl) ?_ _
    obtain ⟨W4, HW4⟩ : ∃ W4, Hid (((w3.setRow w.heap.size (enC i s nm t rt a1 ld c1 l ll cl h lh ch tg gr)).setRow w.heap.size (enC i s nm t rt a1 ld c1 a2 ll c2 h lh ch tg gr)).setRow w.heap.size (enC i s nm t rt a1 ld c1 a2 ll c2 a3 lh c3 tg gr) = W4) := ⟨_, rfl⟩
    have B4 : Hid (Below w.heap.size w W4) := by show Below _ _ _; rw [← HW4.out]; exact hHeld.1
    have X4 : Hid (W4.heap[w.heap.size]? = some (.cells (enC i s nm t rt a1 ld c1 a2 ll c2 a3 lh c3 tg gr) 53 (0, 0))) := by show _ = _; rw [← HW4.out]; exact Y3
    have R4 : Hid (W4.heap[w.heap.size + 1]? = some (.cells (enC 0 0 ⟨#[]⟩ 0 0 none 0 0 none 0 0 none 0 0 0 0) 53 (0, 0))) := by show _ = _; rw [← HW4.out]; exact hHeld.2.2
    have K4 : Hid (∀ g, w.heap.size + 1 < g → W4.heap[g]? = w3.heap[g]?) := fun g hg => by rw [← HW4.out, setRow_other _ _ _ _ (by omega), setRow_other _ _ _ _ (by omega), setRow_other _ _ _ _ (by omega)]
    rw [show ((w3.setRow w.heap.size _).setRow w.heap.size _).setRow w.heap.size _ = W4 from HW4.out]
    clear hHeld Y1 Y2 Y3 HW4
    go_wp2_with (first | (refine wpList_load_by rfl 53 _ rfl ⟨w.heap.size, 0, none⟩ _ rfl (loadE _ _ i s nm t rt a1 ld c1 a2 ll c2 a3 lh c3 tg gr _ X4.out) ?_) | (refine wpList_store_by rfl 53 _ _ rfl ⟨w.heap.size + 1, 0, none⟩ _ rfl rfl (storeE _ _ _ i s nm t rt a1 ld c1 a2 ll c2 a3 lh c3 tg gr _ R4.out rfl) ?_))
    have hcc := fun j => cell_of_row _ (w.heap.size + 1) j _ _ _ (setRow_heap _ _ _ (enC i s nm t rt a1 ld c1 a2 ll c2 a3 lh c3 tg gr) _ _ R4.out)
    have keep : Hid (∀ g, w.heap.size + 1 < g → (W4.setRow (w.heap.size + 1) (enC i s nm t rt a1 ld c1 a2 ll c2 a3 lh c3 tg gr)).heap[g]? = w3.heap[g]?) := fun g hg => by rw [setRow_other _ _ _ _ (by omega), K4.out g hg]
    refine bodyPost_ret (v := .agg (enC i s nm t rt a1 ld c1 a2 ll c2 a3 lh c3 tg gr)) ?_ rfl ⟨a1, c1, a2, c2, a3, c3, rfl, ?_, ?_, ?_, below_setRow B4.out (Nat.le_succ _) _⟩
    · simp [results, Tryd.results17, go_sem, hcc]
    · exact T1.out.keep11 B0.out.size (fun g g1 g2 => by rw [keep.out g (by have := L0.out; omega), N3.out.block g (Nat.lt_of_lt_of_le g2 N2.out.size), N2.out.block g g2])
    · exact T2.out.keep11 B1.out.size (fun g g1 g2 => by rw [keep.out g (by have := L0.out; have := N1.out.size; omega), N3.out.block g g2])
    · exact T3.out.keep11 B2.out.size (fun g g1 g2 => by rw [keep.out g (by have := L0.out; have := N1.out.size; have := N2.out.size; omega)])
#print axioms copyOf_any
set_option linter.unusedSimpArgs false in
set_option maxHeartbeats 4000000 in
set_option maxRecDepth 100000 in
theorem has_any (i s : Int) (nm : ByteArray) (t rt : Int) (d : Option Addr) (ld cd : Nat) (l : Option Addr) (ll cl : Nat) (h : Option Addr) (lh ch : Nat) (tg gr : Int) (v : Option Addr) (lv cv : Nat) (r : Int) (w : World) : Calls Tryd.prog 28 #[.agg (itC i s nm t rt d ld cd l ll cl h lh ch tg gr v lv cv), .int .u8 r] w fun e w' => e = .returned (.bool (bits .and .u8 rt r != 0)) ∧ Below w.heap.size w w' := by
  go_enter Tryd.func28, Tryd.ntmps28
  go_wp2_with fail
  go_ret
  exact ⟨rfl, (by repeat (first | exact Below.refl _ _ | apply Below.drew | apply Below.al))⟩
set_option linter.unusedSimpArgs false in
set_option maxHeartbeats 4000000 in
set_option maxRecDepth 100000 in
theorem icheck_any (i s : Int) (nm : ByteArray) (t rt : Int) (d : Option Addr) (ld cd : Nat) (l : Option Addr) (ll cl : Nat) (h : Option Addr) (lh ch : Nat) (tg gr : Int) (v : Option Addr) (lv cv : Nat) (b : Option Addr) (lb cb : Nat) (zb zl zh : List Int) (w : World) (rb : SlOk w b lb cb zb) (rl : SlOk w l ll cl zl) (rh : SlOk w h lh ch zh) (hT : Ty.Tab64 w) :
    Calls Tryd.prog 29 #[.agg (itC i s nm t rt d ld cd l ll cl h lh ch tg gr v lv cv), .slice b lb cb] w fun e w' => e = .returned (.int .u32 (Ty.chkN t zb zl zh)) ∧ Below w.heap.size w w' := by
  have HC : Hid (∀ W, Below w.heap.size w W → Calls Tryd.prog 32 #[.int .u8 t, .slice b lb cb, .slice l ll cl, .slice h lh ch] W fun e w' => e = .returned (.int .u32 (Ty.chkN t zb zl zh)) ∧ Below W.heap.size W w') := fun W hb => check8 t b l h lb cb ll cl lh ch zb zl zh W (rb.next hb) (rl.next hb) (rh.next hb) (tab_next hT hb)
  clear rb rl rh hT
  go_enter Tryd.func29, Tryd.ntmps29
  go_wp2_with fail
  refine (HC.out _ (by repeat (first | exact Below.refl _ _ | apply Below.drew | apply Below.al))).mono ?_
  rintro e w1 ⟨rfl, hb⟩
  have B1 : Hid (Below w.heap.size w w1) := Below.andThen (by repeat (first | exact Below.refl _ _ | apply Below.drew | apply Below.al)) hb
  clear hb
  go_wp2_with fail
  go_ret
  exact ⟨rfl, B1.out⟩
end Go.Proofs.YtcdmldnaagiicaaDoor
