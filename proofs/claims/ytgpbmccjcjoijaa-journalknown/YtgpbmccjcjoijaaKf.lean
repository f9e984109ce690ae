/-
  The document's journal in memory; New, room, Room.
  The document's Room.
  The document's Store and Restore.
  The document's Restore.
-/
import Derived.Test.YtgpbmccjcjoijaaJy
namespace Go.Proofs.Ytgpbmccjcjoijaa
open Go.RowKit

def mcell (g : Gp) : List Value := [.bool g.there, .string (strOfNums g.bs), .bool g.marked]
def mflat (all : List Gp) : List Value := all.flatMap mcell
theorem mflat_cons (g : Gp) (gs : List Gp) : mflat (g :: gs) = mcell g ++ mflat gs := rfl
theorem mflat_len : ∀ all : List Gp, (mflat all).length = 3 * all.length
  | [] => rfl
  | g :: gs => by rw [mflat_cons, List.length_append, mflat_len gs]; simp [mcell]; omega
theorem mflat_at : ∀ (all : List Gp) (i : Nat) (g : Gp), all[i]? = some g → (mflat all)[i * 3]? = some (.bool g.there) ∧ (mflat all)[i * 3 + 1]? = some (.string (strOfNums g.bs)) ∧ (mflat all)[i * 3 + 2]? = some (.bool g.marked)
  | [], _, _, h => by simp at h
  | a :: gs, 0, g, h => by
    obtain rfl : a = g := by simpa using h
    exact ⟨rfl, rfl, rfl⟩
  | a :: gs, i + 1, g, h => by
    have := mflat_at gs i g (by simpa using h)
    have e : ∀ q, (mflat (a :: gs))[(i + 1) * 3 + q]? = (mflat gs)[i * 3 + q]? := fun q => by
      rw [mflat_cons, List.getElem?_append_right (by simp [mcell]; omega)]
      congr 1
      simp [mcell]; omega
    exact ⟨(e 0).trans this.1, (e 1).trans this.2.1, (e 2).trans this.2.2⟩
theorem mflat_set : ∀ (all : List Gp) (i : Nat) (g : Gp), i < all.length → mflat (all.set i g) = put (mflat all) (i * 3) (mcell g)
  | [], _, _, h => by simp at h
  | a :: gs, 0, g, _ => by
    rw [List.set_cons_zero, mflat_cons, mflat_cons]
    exact (put_exact [] (mcell a) (mcell g) (mflat gs) (0 * 3) rfl rfl).symm
  | a :: gs, i + 1, g, h => by
    have := mflat_set gs i g (by simpa using h)
    show mcell a ++ mflat (gs.set i g) = put (mcell a ++ mflat gs) ((i + 1) * 3) (mcell g)
    rw [this]
    unfold put
    have e : (i + 1) * 3 = i * 3 + 3 := by omega
    rw [e]
    simp [mcell, Nat.add_assoc]
/-- The document's journal in memory. -/
structure IsM (w : World) (d db : Nat) (count : Nat) (all : List Gp) : Prop where
  top : w.heap[d]? = some (.cells #[.slice (some ⟨db, 0, none⟩) 16 16, .int .i64 (count : Int)] 76 (0, 0))
  row : w.heap[db]? = some (.cells (mflat all).toArray 81 (0, 0))
  len : all.length = 16
theorem IsM.ne {w : World} {d db count : Nat} {all : List Gp} (h : IsM w d db count all) : d ≠ db := fun e => by
  have h1 := h.top
  rw [e, h.row] at h1
  simp at h1
theorem IsM.kp {w w' : World} {d db count : Nat} {all : List Gp} {S : List Nat} (h : IsM w d db count all) (k : Kp S w w') (h1 : d ∉ S) (h2 : db ∉ S) : IsM w' d db count all :=
  ⟨(k.block d (lt_of_heap h.top) h1).trans h.top, (k.block db (lt_of_heap h.row) h2).trans h.row, h.len⟩
theorem IsM.c0 {w : World} {d db count : Nat} {all : List Gp} (h : IsM w d db count all) : w.cell? ⟨d, 0, none⟩ = some (.slice (some ⟨db, 0, none⟩) 16 16) := by rw [cell_of_row w _ _ _ _ _ h.top]; rfl
theorem IsM.c1 {w : World} {d db count : Nat} {all : List Gp} (h : IsM w d db count all) : w.cell? ⟨d, 1, none⟩ = some (.int .i64 (count : Int)) := by rw [cell_of_row w _ _ _ _ _ h.top]; rfl
theorem IsM.grp {w : World} {d db count : Nat} {all : List Gp} (h : IsM w d db count all) (i : Nat) (g : Gp) (hg : all[i]? = some g) : w.cell? ⟨db, i * 3, none⟩ = some (.bool g.there) ∧ w.cell? ⟨db, i * 3 + 1, none⟩ = some (.string (strOfNums g.bs)) ∧ w.cell? ⟨db, i * 3 + 2, none⟩ = some (.bool g.marked) := by
  obtain ⟨a, b, c⟩ := mflat_at all i g hg
  refine ⟨?_, ?_, ?_⟩
  · rw [cell_of_row w _ _ _ _ _ h.row, List.getElem?_toArray, a]
  · rw [cell_of_row w _ _ _ _ _ h.row, List.getElem?_toArray, b]
  · rw [cell_of_row w _ _ _ _ _ h.row, List.getElem?_toArray, c]
def m48 : Array Value := (mflat all0).toArray
theorem make16 (W : World) : (Instr.makeSlice 74 (.int .i64 16) (.int .i64 16)).run Try.prog W = .ok (.slice (some ⟨W.heap.size, 0, none⟩) 16 16) (W.alloc (.cells m48 81)) := by kernel_rfl
theorem ex_make16 {o : Oper} {a : Act} {w : World} (ho : o.op = .makeSlice 74 (.const (.int .i64 16)) (.const (.int .i64 16))) : (execOp a.eval o).run Try.prog w = .ok (.value (.slice (some ⟨w.heap.size, 0, none⟩) 16 16)) (w.alloc (.cells m48 81)) := by
  have e : a.eval (.const (.int .i64 16)) = .int .i64 16 := rfl
  simp only [execOp, ho, e, Sem.run_bind, Sem.run_pure, Result.andThen_ok, make16]

set_option linter.unusedSimpArgs false in
set_option maxHeartbeats 4000000 in
set_option maxRecDepth 100000 in
theorem rnew_any (count : Nat) (w : World) :
    Calls Try.prog 12 #[.int .i64 (count : Int)] w fun e w' => e = .returned (.pointer (some ⟨w.heap.size + 1, 0, none⟩)) ∧ IsM w' (w.heap.size + 1) w.heap.size count all0 ∧ Kp [] w w' := by
  have b1 : (w.alloc (.cells m48 81)).heap[w.heap.size]? = some (.cells m48 81 (0, 0)) := heap_alloc_new w _
  have b2 : ((w.alloc (.cells m48 81)).alloc (.cells #[.slice (some ⟨w.heap.size, 0, none⟩) 16 16, .int .i64 (count : Int)] 76)).heap[w.heap.size + 1]? = some (.cells #[.slice (some ⟨w.heap.size, 0, none⟩) 16 16, .int .i64 (count : Int)] 76 (0, 0)) := by
    have := heap_alloc_new (w.alloc (.cells m48 81)) (.cells #[.slice (some ⟨w.heap.size, 0, none⟩) 16 16, .int .i64 (count : Int)] 76)
    rwa [World.size_alloc] at this
  have HFIN : Hid (IsM ((w.alloc (.cells m48 81)).alloc (.cells #[.slice (some ⟨w.heap.size, 0, none⟩) 16 16, .int .i64 (count : Int)] 76)) (w.heap.size + 1) w.heap.size count all0 ∧ Kp [] w ((w.alloc (.cells m48 81)).alloc (.cells #[.slice (some ⟨w.heap.size, 0, none⟩) 16 16, .int .i64 (count : Int)] 76))) := by
    refine ⟨⟨b2, ?_, rfl⟩, ((Kp.refl _ _).al _).al _⟩
    rw [Below.heap_alloc _ _ _ (by simp)]
    exact b1
  clear b1 b2
  go_enter Try.func12, Try.ntmps12
  go_wp2_with (refine wpList_val rfl (ex_make16 rfl) ?_)
  go_ret
  exact ⟨by simp, HFIN.out⟩

set_option linter.unusedSimpArgs false in
set_option maxHeartbeats 4000000 in
set_option maxRecDepth 100000 in
theorem rroom_any (n : Nat) (h : n ≤ 1000000000) (w : World) :
    Calls Try.prog 59 #[.int .i64 n] w fun e w' => e = .returned (.int .i64 (rm n : Nat)) ∧ w' = w := by
  have h' : (n : Int) ≤ 1000000000 := by omega
  go_enter Try.func59, Try.ntmps59
  go_wp2_with fail
  go_ret
  exact ⟨ret_int (by unfold rm; omega), rfl⟩
#print axioms rnew_any
#print axioms rroom_any
end Go.Proofs.Ytgpbmccjcjoijaa
namespace Go.Proofs.Ytgpbmccjcjoijaa
open Go.RowKit

theorem roomX_of (all : List Gp) (i : Nat) (h : i < all.length) : roomX all i = roomG (all.set i gp0) := by
  rw [roomX_set all i gp0 h]
  have : gRoom gp0 = 0 := rfl
  omega

set_option linter.unusedSimpArgs false in
set_option maxHeartbeats 4000000 in
set_option maxRecDepth 100000 in
theorem rRoom_any {w : World} {d db count : Nat} {all : List Gp} (hM : IsM w d db count all) (hl : ∀ g ∈ all, g.bs.length ≤ 4096) (G : Nat) (hG : G < 16) (n : Nat) (hn : n ≤ 4096) (hc : count ≤ 1000) (hc2 : 2 ≤ count) :
    Calls Try.prog 41 #[.pointer (some ⟨d, 0, none⟩), .int .u8 (G : Int), .int .i64 (n : Int)] w fun e w' => e = .returned (.bool (decide (rm n + roomX all G + 16 ≤ 1024 * (count / 2)))) ∧ Below w.heap.size w w' := by
  have h16 := hM.len
  obtain ⟨L, hL⟩ : ∃ L, Hid (all.set G gp0 = L) := ⟨_, rfl⟩
  have hX : Hid (roomX all G = roomG L) := by show roomX all G = _; rw [← hL.out]; exact roomX_of all G (by omega)
  have hL16 : L.length = 16 := by rw [← hL.out, List.length_set]; exact h16
  have hLl : ∀ g ∈ L, g.bs.length ≤ 4096 := fun g hg => by
    rw [← hL.out] at hg
    rcases List.mem_or_eq_of_mem_set hg with hg | rfl
    · exact hl g hg
    · simp [gp0]
  have hLi : Hid (∀ i (hi : i < 16), L[i]? = if i = G then some gp0 else all[i]?) := fun i hi => by
    rw [← hL.out]
    by_cases e : i = G
    · subst e; rw [if_pos rfl, List.getElem?_set_self (by omega)]
    · rw [if_neg e, List.getElem?_set_ne (Ne.symm e)]
  have RN0 := rroom_any n (by omega) w
  have hr0 := rm_lt n
  have HM : Hid (IsM w d db count all) := hM
  have HLL : Hid (∀ g ∈ L, g.bs.length ≤ 4096) := hLl
  have HAL : Hid (∀ g ∈ all, g.bs.length ≤ 4096) := hl
  rw [hX.out]
  have hG' : (G : Int) < 16 := by omega
  have c1 := hM.c1
  clear hM hLl hl
  go_enter Try.func41, Try.ntmps41
  go_wp2_with fail
  with_reducible refine RN0.mono ?_
  rintro e z ⟨rfl, rfl⟩
  clear RN0
  go_wp2_with fail
  go_loopw [7, 8] (fun u v wr => ∃ i : Nat, i ≤ 16 ∧ v = .int .i64 i ∧ u = .int .i64 ((rm n + roomG (L.take i) : Nat) : Int) ∧ Below z.heap.size z wr) (fun _ v _ => 16 - (intOf v).toNat)
  case atStart => exact ⟨0, by omega, rfl, rfl, Below.refl _ _⟩
  case round =>
    obtain ⟨i, hi, rfl, rfl, hb⟩ := hrel
    have hMr : IsM wr d db count all := HM.out.kp (S := []) (Kp.of hb) (by simp) (by simp)
    have d0 := hMr.c0
    have d1 := hMr.c1
    have LB := roomG_le (L.take i) (fun g hg => HLL.out g (List.mem_of_mem_take hg))
    have hTl : (L.take i).length = i := by simp; omega
    rw [hTl] at LB
    have LB' : roomG (L.take i) ≤ 65792 := by omega
    by_cases hlt : i < 16
    · have g1 : (i : Int) < 16 := by omega
      have g2 : (0 : Int) ≤ i := by omega
      have hai : all[i]? = some (all[i]'(by omega)) := List.getElem?_eq_getElem _
      obtain ⟨x0, x1, x2⟩ := hMr.grp i _ hai
      have L4 := HAL.out (all[i]'(by omega)) (List.getElem_mem _)
      have hLi' := hLi.out i hlt
      rw [hai] at hLi'
      generalize (all[i]'(by omega)) = g at *
      have hB : Hid (Below z.heap.size z wr) := hb
      have RM := fun W => rroom_any g.bs.length (by omega) W
      have r0 := rm_lt g.bs.length
      have RN := fun y hy => roomG_next L i y hy
      clear LB hTl hai hMr
      obtain ⟨th, mk, bs⟩ := g
      dsimp only at *
      have hsz : (strOfNums bs).size = bs.length := strOfNums_size bs
      obtain ⟨st, hst⟩ : ∃ st, Hid (strOfNums bs = st) := ⟨_, rfl⟩
      rw [hst.out] at x1 hsz
      have hBa : Hid (∀ o, Below z.heap.size z (wr.alloc o)) := fun o => Below.al hb o
      by_cases hGi : i = G
      · rw [if_pos hGi] at hLi'
        have RNi : Hid (roomG (L.take (i + 1)) = roomG (L.take i)) := by show roomG (L.take (i + 1)) = _; rw [RN _ hLi']; rfl
        have ng : ((i : Int) ≠ (G : Int)) = False := by simp [hGi]
        subst hGi
        clear RN hLi' RM
        go_wp2_with fail
        exact ⟨⟨i + 1, by omega, by go_num, by rw [RNi.out], by first | exact hBa.out _ | exact (hBa.out _).set (by simp) | skip⟩, by simp [intOf]; omega⟩
      · rw [if_neg hGi] at hLi'
        have RNi : Hid (roomG (L.take (i + 1)) = roomG (L.take i) + if (th && !mk) = true then rm bs.length else 0) := RN _ hLi'
        have ng : ¬ (i : Int) = (G : Int) := by omega
        clear RN hLi'
        by_cases hth : th = true
        · subst hth
          by_cases hmk : mk = true
          · subst hmk
            clear RM
            go_wp2_with fail
            exact ⟨⟨i + 1, by omega, by go_num, by rw [RNi.out]; rfl, by first | exact hBa.out _ | skip⟩, by simp [intOf]; omega⟩
          · have hmk : mk = false := by simpa using hmk
            subst hmk
            have e3 : ((rm n + roomG (L.take i) : Nat) : Int) + rm bs.length ≤ 80000 := by omega
            go_wp2_with fail
            with_reducible refine (RM _).mono ?_
            rintro e z2 ⟨rfl, rfl⟩
            clear RM
            go_wp2_with fail
            exact ⟨⟨i + 1, by omega, by go_num, by rw [RNi.out]; simp; go_num, by first | exact hBa.out _ | skip⟩, by simp [intOf]; omega⟩
        · have hth : th = false := by simpa using hth
          subst hth
          clear RM
          go_wp2_with fail
          exact ⟨⟨i + 1, by omega, by go_num, by rw [RNi.out]; rfl, by first | exact hBa.out _ | skip⟩, by simp [intOf]; omega⟩
    · obtain rfl : i = 16 := by omega
      have eT : Hid (L.take 16 = L) := List.take_of_length_le (by omega)
      rw [eT.out] at LB' ⊢
      have hRL : roomG (L.take 16) = roomG L := by rw [eT.out]
      have hB : Hid (Below z.heap.size z wr) := hb
      have e1 : (count : Int) ≤ 1000 := by omega
      have e2 : (2 : Int) ≤ (count : Int) := by omega
      have e3 : ((rm n + roomG L : Nat) : Int) ≤ 80000 := by omega
      clear hRL
      go_wp2_with fail
      go_ret
      refine ⟨?_, hB.out⟩
      exact ret_bool (decide_eq_decide.2 (by omega))
#print axioms rRoom_any
end Go.Proofs.Ytgpbmccjcjoijaa
namespace Go.Proofs.Ytgpbmccjcjoijaa
open Go.RowKit

theorem ex_conv {o : Oper} {a : Act} {w : World} (s t : TypeId) (x : Operand) (ho : o.op = .convert s t x) (u v : Value) (hx : a.eval x = u) (hr : (convert s t u).run Try.prog w = .ok v w) : (execOp a.eval o).run Try.prog w = .ok (.value v) w := by
  simp only [execOp, ho, hx, Sem.run_bind, Sem.run_pure, Result.andThen_ok, hr]
theorem size81 : (Try.prog.info? 81).map (·.size) = some 3 := by kernel_rfl
theorem mcell_one (g : Gp) : ∀ v ∈ mcell g, v.oneCell' = true := fun v hv => by
  simp only [mcell, List.mem_cons, List.not_mem_nil, or_false] at hv; rcases hv with rfl | rfl | rfl <;> rfl
theorem mstore_group {w : World} {d db count : Nat} {all : List Gp} (h : IsM w d db count all) (i : Nat) (hi : i < 16) (g : Gp) :
    (storeVar 81 ⟨db, i * 3, none⟩ (.agg #[.bool g.there, .string (strOfNums g.bs), .bool g.marked])).run Try.prog w = .ok () (w.setRow db (mflat (all.set i g)).toArray) ∧ IsM (w.setRow db (mflat (all.set i g)).toArray) d db count (all.set i g) ∧ Kp [db] w (w.setRow db (mflat (all.set i g)).toArray) := by
  have hL := mflat_len all
  have h16 := h.len
  have K : Kp [db] w (w.setRow db (mflat (all.set i g)).toArray) := (Kp.refl _ _).row _ _ (.inl (by simp))
  refine ⟨?_, ⟨(K.block d (lt_of_heap h.top) (by simpa using h.ne)).trans h.top, setRow_heap _ _ _ _ _ _ h.row, by rw [List.length_set]; exact h16⟩, K⟩
  have := store_part 81 3 size81 w db (i * 3) _ _ h.row (mcell g) rfl (by simp [hL]; omega) (mcell_one g)
  rw [mflat_set all i g (by omega)]
  exact this
/-- What the document's call leaves. -/
def MPost (w : World) (d db count : Nat) (M : Int × List Gp) (e : Ending) (w' : World) : Prop :=
  e = .returned (.int .i64 M.1) ∧ IsM w' d db count M.2 ∧ Kp [db] w w'
theorem mStore_g {k : Nat} {all : List Gp} {g : Int} {bs : List Int} (h : 16 ≤ g) : mStore k all g bs = (62, all) := by unfold mStore; rw [if_pos h]
theorem mStore_l {k : Nat} {all : List Gp} {g : Int} {bs : List Int} (h : ¬ 16 ≤ g) (h2 : 4096 < bs.length) : mStore k all g bs = (3, all) := by unfold mStore; rw [if_neg h, if_pos h2]
theorem mStore_r {k : Nat} {all : List Gp} {G : Nat} {bs : List Int} (h : G < 16) (hl : all.length = 16) (h2 : ¬ 4096 < bs.length) : mStore k all (G : Int) bs = if rm bs.length + roomX all G + 16 ≤ 1024 * k then (0, all.set G ⟨true, false, bs⟩) else (60, all) := by
  unfold mStore
  rw [if_neg (by omega), if_neg h2]
  have e : take1 all ⟨2, (G : Int), bs⟩ = all.set G ⟨true, false, bs⟩ := by unfold take1; rw [if_pos rfl]; rfl
  rw [e, roomX_set all G _ (by omega)]
  have e2 : gRoom ⟨true, false, bs⟩ = rm bs.length := rfl
  rw [e2]
  by_cases hh : rm bs.length + roomX all G + 16 ≤ 1024 * k
  · rw [if_pos hh, if_neg (by omega)]
  · rw [if_neg hh, if_pos (by omega)]

set_option linter.unusedSimpArgs false in
set_option maxHeartbeats 8000000 in
set_option maxRecDepth 100000 in
theorem rstore_any {w : World} {d db count : Nat} {all : List Gp} (hM : IsM w d db count all) (hl : ∀ g ∈ all, g.bs.length ≤ 4096) (hc : count ≤ 1000) (hc2 : 2 ≤ count) (g : Int) (hg0 : 0 ≤ g) (bs : List Int) (a : Option Addr) (l cap2 : Nat) (hrow : Row w a l bs) (hndb : 0 < l → ∀ b off, a = some ⟨b, off, none⟩ → b ∉ [db]) :
    Calls Try.prog 18 #[.pointer (some ⟨d, 0, none⟩), .int .u8 g, .slice a l cap2] w fun e w' => MPost w d db count (mStore (count / 2) all g bs) e w' := by
  have hsz := hrow.size
  have HM : Hid (IsM w d db count all) := hM
  obtain ⟨R, hR⟩ : ∃ R, Hid (mStore (count / 2) all g bs = R) := ⟨_, rfl⟩
  rw [hR.out]
  by_cases hg : 16 ≤ g
  · have HFIN : Hid (MPost w d db count R (.returned (.int .i64 62)) w) := by
      rw [← hR.out, mStore_g hg]; exact ⟨rfl, HM.out, Kp.refl _ _⟩
    clear hM hrow
    go_enter Try.func18, Try.ntmps18
    go_wp2_with fail
    go_ret
    exact HFIN.out
  by_cases hl2 : 4096 < bs.length
  · have HFIN : Hid (MPost w d db count R (.returned (.int .i64 3)) w) := by
      rw [← hR.out, mStore_l hg hl2]; exact ⟨rfl, HM.out, Kp.refl _ _⟩
    have hl3 : (4096 : Int) < (l : Int) := by omega
    clear hM hrow
    go_enter Try.func18, Try.ntmps18
    go_wp2_with fail
    go_ret
    exact HFIN.out
  obtain ⟨G, rfl⟩ := Int.eq_ofNat_of_zero_le hg0
  have hG : G < 16 := by omega
  have hl3 : ¬ (4096 : Int) < (l : Int) := by omega
  have RM := rRoom_any hM hl G hG l (by omega) hc hc2
  have hR2 := mStore_r (k := count / 2) (all := all) (G := G) (bs := bs) hG hM.len hl2
  rw [hR.out, hsz] at hR2
  have HR2 : Hid (R = if rm l + roomX all G + 16 ≤ 1024 * (count / 2) then (0, all.set G ⟨true, false, bs⟩) else (60, all)) := hR2
  have HRW : Hid (Row w a l bs) := hrow
  have g1 : (G : Int) < 16 := by omega
  have g2 : (0 : Int) ≤ G := by omega
  clear hM hrow hR2 hl
  go_enter Try.func18, Try.ntmps18
  go_wp2_with fail
  with_reducible refine RM.mono ?_
  rintro e U ⟨rfl, hb⟩
  clear RM
  have HMU : Hid (IsM U d db count all) := HM.out.kp (S := []) (Kp.of hb) (by simp) (by simp)
  have HRU : Hid (Row U a l bs) := HRW.out.next hb
  have HKU : Hid (Kp [db] w U) := Kp.of hb
  clear hb
  by_cases hfit : rm l + roomX all G + 16 ≤ 1024 * (count / 2)
  · have hd : decide (rm l + roomX all G + 16 ≤ 1024 * (count / 2)) = true := decide_eq_true hfit
    rw [hd]
    have MD : IsM U.drew d db count all := HMU.out.kp (S := []) ((Kp.refl _ _).drew) (by simp) (by simp)
    obtain ⟨s1, M1, K1⟩ := mstore_group MD G hG ⟨true, false, bs⟩
    have HFIN : Hid (MPost w d db count R (.returned (.int .i64 0)) (U.drew.setRow db (mflat (all.set G ⟨true, false, bs⟩)).toArray)) := by
      rw [HR2.out, if_pos hfit]; exact ⟨rfl, M1, HKU.out.trans (((Kp.refl _ _).drew).trans K1)⟩
    obtain ⟨st, hst⟩ : ∃ st, Hid (strOfNums bs = st) := ⟨_, rfl⟩
    have s1 : (storeVar 81 ⟨db, G * 3, none⟩ (.agg #[.bool true, .string st, .bool false])).run Try.prog U.drew = .ok () (U.drew.setRow db (mflat (all.set G ⟨true, false, bs⟩)).toArray) := by rw [← hst.out]; exact s1
    have CV : Hid (∀ x, Row x a l bs → (convert 33 9 (.slice a l cap2)).run Try.prog x = .ok (.string st) x) := fun x h => by rw [← hst.out]; exact h.str cap2
    have d0 := HMU.out.c0
    have c0 : (U.drew.setRow db (mflat (all.set G ⟨true, false, bs⟩)).toArray).cell? ⟨d, 0, none⟩ = some (.slice (some ⟨db, 0, none⟩) 16 16) := M1.c0
    have rowY : Row (U.drew.setRow db (mflat (all.set G ⟨true, false, bs⟩)).toArray) a l bs := HRU.out.drew.kp' K1 hndb
    obtain ⟨Y, hY⟩ : ∃ Y, Hid (U.drew.setRow db (mflat (all.set G ⟨true, false, bs⟩)).toArray = Y) := ⟨_, rfl⟩
    rw [hY.out] at s1 HFIN c0 rowY
    have rU := HRU.out
    have rY : Row Y a l bs := rowY
    clear hd M1 K1 MD hfit
    go_wp2_with fail
    refine wp_region_held_drew (S := fun x => x.cell? ⟨d, 0, none⟩ = some (.slice (some ⟨db, 0, none⟩) 16 16) ∧ Row x a l bs) (by kernel_rfl) (⟨d0, rU.drew⟩) (fun hHeld => ?_)
    refine wpAnyH_take (i := 0) (v := (.pointer (some ⟨d, 0, none⟩))) rfl (by kernel_rfl) (by kernel_rfl) (by kernel_rfl) (fun _ _ _ h => h) (Or.inl ⟨by rfl, ?_⟩) (by assumption) ?_
    · intro w9 hSw
      try dsimp only at hSw
      go_simp
      all_goals try decide
      all_goals try assumption
      all_goals try omega
    try simp only [Act.put, List.getElem_toArray, List.getElem_cons_succ, List.getElem_cons_zero, List.setIfInBounds_toArray, List.set_cons_zero, List.set_cons_succ]
    refine wpAnyH_take (i := 1) (v := (.pointer (some ⟨d, 0, none⟩))) rfl (by kernel_rfl) (by kernel_rfl) (by kernel_rfl) (fun _ _ _ h => h) (Or.inl ⟨by rfl, ?_⟩) (by assumption) ?_
    · intro w9 hSw
      try dsimp only at hSw
      go_simp
      all_goals try decide
      all_goals try assumption
      all_goals try omega
    try simp only [Act.put, List.getElem_toArray, List.getElem_cons_succ, List.getElem_cons_zero, List.setIfInBounds_toArray, List.set_cons_zero, List.set_cons_succ]
    refine wpAnyH_take (i := 2) (v := (.pointer (some ⟨d, 0, none⟩))) rfl (by kernel_rfl) (by kernel_rfl) (by kernel_rfl) (fun _ _ _ h => h) (Or.inl ⟨by rfl, ?_⟩) (by assumption) ?_
    · intro w9 hSw
      try dsimp only at hSw
      go_simp
      all_goals try decide
      all_goals try assumption
      all_goals try omega
    try simp only [Act.put, List.getElem_toArray, List.getElem_cons_succ, List.getElem_cons_zero, List.setIfInBounds_toArray, List.set_cons_zero, List.set_cons_succ]
    refine wpAnyH_take (i := 3) (v := (.slice (some ⟨db, 0, none⟩) 16 16)) rfl (by kernel_rfl) (by kernel_rfl) (by kernel_rfl) (fun _ _ _ h => h) (Or.inl ⟨by rfl, ?_⟩) (by assumption) ?_
    · intro w9 hSw
      try dsimp only at hSw
      obtain ⟨hS0, _⟩ := hSw
      go_simp
    try simp only [Act.put, List.getElem_toArray, List.getElem_cons_succ, List.getElem_cons_zero, List.setIfInBounds_toArray, List.set_cons_zero, List.set_cons_succ]
    refine wpAnyH_take (i := 4) (v := (.int .u8 (G : Int))) rfl (by kernel_rfl) (by kernel_rfl) (by kernel_rfl) (fun _ _ _ h => h) (Or.inl ⟨by rfl, ?_⟩) (by assumption) ?_
    · intro w9 hSw
      try dsimp only at hSw
      go_simp
      all_goals try decide
      all_goals try assumption
      all_goals try omega
    try simp only [Act.put, List.getElem_toArray, List.getElem_cons_succ, List.getElem_cons_zero, List.setIfInBounds_toArray, List.set_cons_zero, List.set_cons_succ]
    refine wpAnyH_take (i := 5) (v := (.slice a l cap2)) rfl (by kernel_rfl) (by kernel_rfl) (by kernel_rfl) (fun _ _ _ h => h) (Or.inl ⟨by rfl, ?_⟩) (by assumption) ?_
    · intro w9 hSw
      try dsimp only at hSw
      go_simp
      all_goals try decide
      all_goals try assumption
      all_goals try omega
    try simp only [Act.put, List.getElem_toArray, List.getElem_cons_succ, List.getElem_cons_zero, List.setIfInBounds_toArray, List.set_cons_zero, List.set_cons_succ]
    refine wpAnyH_take (i := 6) (v := (.string st)) rfl (by kernel_rfl) (by kernel_rfl) (by kernel_rfl) (fun _ _ _ h => h) (Or.inl ⟨by rfl, ?_⟩) (by assumption) ?_
    · intro w9 hSw
      try dsimp only at hSw
      exact ex_conv 33 9 (.tmp 26) rfl _ _ rfl (CV.out _ hSw.2)
    try simp only [Act.put, List.getElem_toArray, List.getElem_cons_succ, List.getElem_cons_zero, List.setIfInBounds_toArray, List.set_cons_zero, List.set_cons_succ]
    refine wpAnyH_take (i := 7) (v := (.agg #[.bool true, .string st, .bool false])) rfl (by kernel_rfl) (by kernel_rfl) (by kernel_rfl) (fun _ _ _ h => h) (Or.inl ⟨by rfl, ?_⟩) (by assumption) ?_
    · intro w9 hSw
      try dsimp only at hSw
      go_simp
      all_goals try decide
      all_goals try assumption
      all_goals try omega
    try simp only [Act.put, List.getElem_toArray, List.getElem_cons_succ, List.getElem_cons_zero, List.setIfInBounds_toArray, List.set_cons_zero, List.set_cons_succ]
    refine wpAnyH_take (i := 8) (v := (.pointer (some ⟨db, G * 3, none⟩))) rfl (by kernel_rfl) (by kernel_rfl) (by kernel_rfl) (fun _ _ _ h => h) (Or.inl ⟨by rfl, ?_⟩) (by assumption) ?_
    · intro w9 hSw
      try dsimp only at hSw
      go_simp
      all_goals try decide
      all_goals try assumption
      all_goals try omega
    try simp only [Act.put, List.getElem_toArray, List.getElem_cons_succ, List.getElem_cons_zero, List.setIfInBounds_toArray, List.set_cons_zero, List.set_cons_succ]
    refine wpAnyH_ready (rs := [9]) (by kernel_rfl) (by simp) ?_
    refine AllReadyH.cons rfl (fun K' hK => ?_) AllReadyH.nil
    rw [if_pos (by rfl)]
    simp only [List.getElem_toArray, List.getElem_cons_succ, List.getElem_cons_zero]
    refine wp_store_by 81 (.tmp 29) (.tmp 28) rfl _ _ rfl rfl s1 ?_
    refine hK.out _ _ (⟨c0, rY⟩) (fun hHeld => ?_)
    clear hK K'
    try simp only [Act.put, List.getElem_toArray, List.getElem_cons_succ, List.getElem_cons_zero, List.setIfInBounds_toArray, List.set_cons_zero, List.set_cons_succ]
    refine wpAnyH_done (by kernel_rfl) ?_ _
    clear s1 c0 d0 CV
    go_wp2_with fail
    go_ret
    exact HFIN.out
  · have hd : decide (rm l + roomX all G + 16 ≤ 1024 * (count / 2)) = false := decide_eq_false hfit
    rw [hd]
    have HFIN : Hid (MPost w d db count R (.returned (.int .i64 60)) U) := by
      rw [HR2.out, if_neg hfit]; exact ⟨rfl, HMU.out, HKU.out⟩
    clear hd hfit
    go_wp2_with fail
    go_ret
    exact HFIN.out
#print axioms rstore_any
end Go.Proofs.Ytgpbmccjcjoijaa
namespace Go.Proofs.Ytgpbmccjcjoijaa
open Go.RowKit

set_option linter.unusedSimpArgs false in
set_option maxHeartbeats 4000000 in
set_option maxRecDepth 100000 in
theorem rrestore_big {w : World} (d : Nat) (g : Int) (hg : 16 ≤ g) :
    Calls Try.prog 14 #[.pointer (some ⟨d, 0, none⟩), .int .u8 g] w fun e w' => e = .returned (.int .i64 62) ∧ w' = w := by
  go_enter Try.func14, Try.ntmps14
  go_wp2_with fail
  go_ret
  exact ⟨rfl, rfl⟩

set_option linter.unusedSimpArgs false in
set_option maxHeartbeats 8000000 in
set_option maxRecDepth 100000 in
theorem rrestore_any {w : World} {d db count : Nat} {all : List Gp} (hM : IsM w d db count all) (i : Nat) (g : Gp) (hg : all[i]? = some g) :
    Calls Try.prog 14 #[.pointer (some ⟨d, 0, none⟩), .int .u8 (i : Int)] w fun e w' => MPost w d db count (mRestore all i g) e w' := by
  have HM : Hid (IsM w d db count all) := hM
  have hi : i < 16 := by
    by_cases hh : i < all.length
    · have := hM.len; omega
    · simp [hh] at hg
  obtain ⟨R, hR⟩ : ∃ R, Hid (mRestore all i g = R) := ⟨_, rfl⟩
  rw [hR.out]
  obtain ⟨x0, x1, x2⟩ := hM.grp i g hg
  have d0 := hM.c0
  have g1 : ¬ (16 : Int) ≤ i := by omega
  have g2 : (i : Int) < 16 := by omega
  have g3 : (0 : Int) ≤ i := by omega
  have hdl : d < w.heap.size := lt_of_heap hM.top
  have hbl : db < w.heap.size := lt_of_heap hM.row
  obtain ⟨th, mk, bs⟩ := g
  dsimp only at x0 x1 x2
  obtain ⟨st, hst⟩ : ∃ st, Hid (strOfNums bs = st) := ⟨_, rfl⟩
  rw [hst.out] at x1
  clear hM hg
  by_cases ht : th = true
  · subst ht
    have HR : Hid (R = (0, all.set i ⟨true, true, bs⟩)) := by show R = _; rw [← hR.out]; rfl
    go_enter Try.func14, Try.ntmps14
    go_wp2_with fail
    have KX : Kp [] w (w.alloc (.cells #[.bool true, .string st, .bool true] 81)) := (Kp.refl _ _).al _
    have bX : (w.alloc (.cells #[.bool true, .string st, .bool true] 81)).heap[w.heap.size]? = some (.cells #[.bool true, .string st, .bool true] 81 (0, 0)) := heap_alloc_new w _
    have y0 := KX.cell d0 (by simp)
    have b0 : (w.alloc (.cells #[.bool true, .string st, .bool true] 81)).cell? ⟨w.heap.size, 0, none⟩ = some (.bool true) := by rw [cell_of_row _ _ _ _ _ _ bX]; rfl
    have b1 : (w.alloc (.cells #[.bool true, .string st, .bool true] 81)).cell? ⟨w.heap.size, 1, none⟩ = some (.string st) := by rw [cell_of_row _ _ _ _ _ _ bX]; rfl
    have b2 : (w.alloc (.cells #[.bool true, .string st, .bool true] 81)).cell? ⟨w.heap.size, 2, none⟩ = some (.bool true) := by rw [cell_of_row _ _ _ _ _ _ bX]; rfl
    generalize (w.alloc (.cells #[.bool true, .string st, .bool true] 81)) = X at *
    have MD : IsM X.drew d db count all := HM.out.kp (S := []) KX.drew (by simp) (by simp)
    obtain ⟨s1, M1, K1⟩ := mstore_group MD i hi ⟨true, true, bs⟩
    have HFIN : Hid (MPost w d db count R (.returned (.int .i64 0)) (X.drew.setRow db (mflat (all.set i ⟨true, true, bs⟩)).toArray)) := by
      rw [HR.out]; exact ⟨rfl, M1, (KX.drew.more (by simp)).trans K1⟩
    have s1 : (storeVar 81 ⟨db, i * 3, none⟩ (.agg #[.bool true, .string st, .bool true])).run Try.prog X.drew = .ok () (X.drew.setRow db (mflat (all.set i ⟨true, true, bs⟩)).toArray) := by rw [← hst.out]; exact s1
    have nz : w.heap.size ∉ [db] := by simp; omega
    have nd : d ∉ [db] := by simpa using HM.out.ne
    have z0 := K1.cell (show X.drew.cell? ⟨d, 0, none⟩ = _ from y0) nd
    have z1 := K1.cell (show X.drew.cell? ⟨w.heap.size, 0, none⟩ = _ from b0) nz
    have z2 := K1.cell (show X.drew.cell? ⟨w.heap.size, 1, none⟩ = _ from b1) nz
    have z3 := K1.cell (show X.drew.cell? ⟨w.heap.size, 2, none⟩ = _ from b2) nz
    obtain ⟨Y, hY⟩ : ∃ Y, Hid (X.drew.setRow db (mflat (all.set i ⟨true, true, bs⟩)).toArray = Y) := ⟨_, rfl⟩
    rw [hY.out] at s1 HFIN z0 z1 z2 z3
    clear x0 x1 x2 d0 KX bX MD M1 K1
    refine wp_region_held_drew (S := fun x => x.cell? ⟨d, 0, none⟩ = some (.slice (some ⟨db, 0, none⟩) 16 16) ∧ x.cell? ⟨w.heap.size, 0, none⟩ = some (.bool true) ∧ x.cell? ⟨w.heap.size, 1, none⟩ = some (.string st) ∧ x.cell? ⟨w.heap.size, 2, none⟩ = some (.bool true)) (by kernel_rfl) (⟨y0, b0, b1, b2⟩) (fun hHeld => ?_)
    refine wpAnyH_take (i := 0) (v := (.pointer (some ⟨d, 0, none⟩))) rfl (by kernel_rfl) (by kernel_rfl) (by kernel_rfl) (fun _ _ _ h => h) (Or.inl ⟨by rfl, ?_⟩) (by assumption) ?_
    · intro w9 hSw
      try dsimp only at hSw
      go_simp
      all_goals try decide
      all_goals try assumption
      all_goals try omega
    try simp only [Act.put, List.getElem_toArray, List.getElem_cons_succ, List.getElem_cons_zero, List.setIfInBounds_toArray, List.set_cons_zero, List.set_cons_succ]
    refine wpAnyH_take (i := 1) (v := (.pointer (some ⟨d, 0, none⟩))) rfl (by kernel_rfl) (by kernel_rfl) (by kernel_rfl) (fun _ _ _ h => h) (Or.inl ⟨by rfl, ?_⟩) (by assumption) ?_
    · intro w9 hSw
      try dsimp only at hSw
      go_simp
      all_goals try decide
      all_goals try assumption
      all_goals try omega
    try simp only [Act.put, List.getElem_toArray, List.getElem_cons_succ, List.getElem_cons_zero, List.setIfInBounds_toArray, List.set_cons_zero, List.set_cons_succ]
    refine wpAnyH_take (i := 2) (v := (.pointer (some ⟨d, 0, none⟩))) rfl (by kernel_rfl) (by kernel_rfl) (by kernel_rfl) (fun _ _ _ h => h) (Or.inl ⟨by rfl, ?_⟩) (by assumption) ?_
    · intro w9 hSw
      try dsimp only at hSw
      go_simp
      all_goals try decide
      all_goals try assumption
      all_goals try omega
    try simp only [Act.put, List.getElem_toArray, List.getElem_cons_succ, List.getElem_cons_zero, List.setIfInBounds_toArray, List.set_cons_zero, List.set_cons_succ]
    refine wpAnyH_take (i := 3) (v := (.slice (some ⟨db, 0, none⟩) 16 16)) rfl (by kernel_rfl) (by kernel_rfl) (by kernel_rfl) (fun _ _ _ h => h) (Or.inl ⟨by rfl, ?_⟩) (by assumption) ?_
    · intro w9 hSw
      try dsimp only at hSw
      obtain ⟨hS0, hS1, hS2, hS3⟩ := hSw
      go_simp
    try simp only [Act.put, List.getElem_toArray, List.getElem_cons_succ, List.getElem_cons_zero, List.setIfInBounds_toArray, List.set_cons_zero, List.set_cons_succ]
    refine wpAnyH_take (i := 4) (v := (.int .u8 (i : Int))) rfl (by kernel_rfl) (by kernel_rfl) (by kernel_rfl) (fun _ _ _ h => h) (Or.inl ⟨by rfl, ?_⟩) (by assumption) ?_
    · intro w9 hSw
      try dsimp only at hSw
      go_simp
      all_goals try decide
      all_goals try assumption
      all_goals try omega
    try simp only [Act.put, List.getElem_toArray, List.getElem_cons_succ, List.getElem_cons_zero, List.setIfInBounds_toArray, List.set_cons_zero, List.set_cons_succ]
    refine wpAnyH_take (i := 5) (v := (.agg #[.bool true, .string st, .bool true])) rfl (by kernel_rfl) (by kernel_rfl) (by kernel_rfl) (fun _ _ _ h => h) (Or.inl ⟨by rfl, ?_⟩) (by assumption) ?_
    · intro w9 hSw
      try dsimp only at hSw
      obtain ⟨hS0, hS1, hS2, hS3⟩ := hSw
      go_simp
    try simp only [Act.put, List.getElem_toArray, List.getElem_cons_succ, List.getElem_cons_zero, List.setIfInBounds_toArray, List.set_cons_zero, List.set_cons_succ]
    refine wpAnyH_take (i := 6) (v := (.pointer (some ⟨db, i * 3, none⟩))) rfl (by kernel_rfl) (by kernel_rfl) (by kernel_rfl) (fun _ _ _ h => h) (Or.inl ⟨by rfl, ?_⟩) (by assumption) ?_
    · intro w9 hSw
      try dsimp only at hSw
      go_simp
      all_goals try decide
      all_goals try assumption
      all_goals try omega
    try simp only [Act.put, List.getElem_toArray, List.getElem_cons_succ, List.getElem_cons_zero, List.setIfInBounds_toArray, List.set_cons_zero, List.set_cons_succ]
    refine wpAnyH_ready (rs := [7]) (by kernel_rfl) (by simp) ?_
    refine AllReadyH.cons rfl (fun K' hK => ?_) AllReadyH.nil
    rw [if_pos (by rfl)]
    simp only [List.getElem_toArray, List.getElem_cons_succ, List.getElem_cons_zero]
    refine wp_store_by 81 (.tmp 25) (.tmp 24) rfl _ _ rfl rfl s1 ?_
    refine hK.out _ _ (⟨z0, z1, z2, z3⟩) (fun hHeld => ?_)
    clear hK K'
    try simp only [Act.put, List.getElem_toArray, List.getElem_cons_succ, List.getElem_cons_zero, List.setIfInBounds_toArray, List.set_cons_zero, List.set_cons_succ]
    refine wpAnyH_done (by kernel_rfl) ?_ _
    clear s1 y0 b0 b1 b2 z0 z1 z2 z3
    go_wp2_with fail
    go_ret
    exact HFIN.out
  · have ht : th = false := by simpa using ht
    subst ht
    have HFIN : Hid (∀ o, MPost w d db count R (.returned (.int .i64 5)) (w.alloc o)) := fun o => by
      rw [← hR.out]; exact ⟨rfl, HM.out.kp (S := []) ((Kp.refl _ _).al o) (by simp) (by simp), (Kp.refl _ _).al o⟩
    go_enter Try.func14, Try.ntmps14
    go_wp2_with fail
    go_ret
    exact HFIN.out _
#print axioms rrestore_any
end Go.Proofs.Ytgpbmccjcjoijaa
