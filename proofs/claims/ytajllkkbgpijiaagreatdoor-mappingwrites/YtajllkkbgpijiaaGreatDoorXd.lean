/-
  The document's Find.
-/
import Derived.Test.YtajllkkbgpijiaaGreatDoorXc
namespace Go.Proofs.YtajllkkbgpijiaaGreatDoor
open Go.RowKit

theorem atX_found (i s : Int) : ∀ (l : List Xi) (k : Nat) (c : Int), c ≠ 0 → (atX i s l k c).2 = 0 → ∃ (j : Nat) (x : Xi), (atX i s l k c).1 = ((k + j : Nat) : Int) ∧ l[j]? = some x ∧ x.i = i ∧ x.s = s
  | [], _, c, hc, h => absurd h hc
  | x :: l, k, c, hc, h => by
    simp only [atX] at h ⊢
    by_cases hm : (x.i == i && x.s == s) = true
    · rw [if_pos hm]
      obtain ⟨q1, q2⟩ : x.i = i ∧ x.s = s := by simpa using hm
      exact ⟨0, x, rfl, rfl, q1, q2⟩
    · rw [if_neg hm] at h ⊢
      obtain ⟨j, y, h1, h2, h3⟩ := atX_found i s l (k + 1) _ (by split <;> first | decide | exact hc) h
      exact ⟨j + 1, y, by rw [h1]; congr 1; omega, by simpa using h2, h3⟩
theorem storeEn (w : World) (B : Nat) (C : Array Value) (i s : Int) (nm : ByteArray) (t rt : Int) (d : Option Addr) (ld cd : Nat) (l : Option Addr) (ll cl : Nat) (h : Option Addr) (lh ch : Nat) (tg gr : Int) (T : TypeId) (hb : w.heap[B]? = some (.cells C T (0, 0))) (hC : C.size = 10) : (storeVar 52 ⟨B, 0, none⟩ (.agg (enC i s nm t rt d ld cd l ll cl h lh ch tg gr))).run Tryz.prog w = .ok () (w.setRow B (enC i s nm t rt d ld cd l ll cl h lh ch tg gr)) := storeE w B C i s nm t rt d ld cd l ll cl h lh ch tg gr T hb hC
/-- What Find answers. -/
def FdPost (i s : Int) (xs : List Xi) (w : World) (e : Ending) (w' : World) : Prop := (((atX i s xs 0 100794368).2 ≠ 0 ∧ e = .returned (.tuple #[.agg (enC 0 0 ⟨#[]⟩ 0 0 none 0 0 none 0 0 none 0 0 0 0), .int .u32 (atX i s xs 0 100794368).2])) ∨ ((atX i s xs 0 100794368).2 = 0 ∧ ∃ (j : Nat) (x : Xi), xs[j]? = some x ∧ x.i = i ∧ x.s = s ∧ e = .returned (.tuple #[.agg (enC x.i x.s x.nm x.t x.rt x.d x.ld x.cd x.l x.ll x.cl x.h x.lh x.ch x.tg x.gr), .int .u32 0]))) ∧ Below w.heap.size w w'

set_option linter.unusedSimpArgs false in
set_option maxHeartbeats 4000000 in
set_option maxRecDepth 100000 in
theorem rfind_any (q : Nat) (v : Value) (nn : Int) (xs : List Xi) (base : Nat) (i s : Int) (w : World) (hq : w.heap[q]? = some (.cells #[v, .int .i64 nn] 84 (0, 0))) (hx : IsX w base v xs) (hl : xs.length ≤ 1000000) :
    Calls Tryz.prog 67 #[.pointer (some ⟨q, 0, none⟩), plV i s] w (FdPost i s xs w) := by
  have HAT : Hid (∀ W, Below w.heap.size w W → Calls Tryz.prog 52 #[.pointer (some ⟨q, 0, none⟩), plV i s] W fun e w' => e = .returned (.tuple #[.int .i64 (atX i s xs 0 100794368).1, .int .u32 (atX i s xs 0 100794368).2]) ∧ Below W.heap.size W w') := fun W hW => at_any q v nn xs base i s W (blk11 hW hq) (hx.next hW) hl
  obtain ⟨vA, vC, rfl, hva⟩ := hx.form2
  have HX : Hid (IsX w base (.slice vA xs.length vC) xs) := hx
  have HQ : Hid (w.heap[q]? = some (.cells #[.slice vA xs.length vC, .int .i64 nn] 84 (0, 0))) := hq
  have lq := lt_of_heap hq
  obtain ⟨kx, HKX⟩ : ∃ kx, Hid (kx = (atX i s xs 0 100794368).1) := ⟨_, rfl⟩
  obtain ⟨cx, HCX⟩ : ∃ cx, Hid (cx = (atX i s xs 0 100794368).2) := ⟨_, rfl⟩
  rw [← HKX.out, ← HCX.out] at HAT
  have VA : Hid (0 < xs.length → ∃ g, vA = some ⟨g, 0, none⟩) := hva
  clear hq hx hva
  go_enter Tryz.func67, Tryz.ntmps67
  go_wp2_with fail
  refine (HAT.out _ (by repeat (first | exact Below.refl _ _ | apply Below.drew | apply Below.al))).mono ?_
  rintro e w1 ⟨rfl, hb⟩
  have B1 : Hid (Below w.heap.size w w1) := Below.andThen (by repeat (first | exact Below.refl _ _ | apply Below.drew | apply Below.al)) hb
  have E1 : Hid (w1.heap[w.heap.size + 1]? = some (.cells (enC 0 0 ⟨#[]⟩ 0 0 none 0 0 none 0 0 none 0 0 0 0) 52 (0, 0))) := blk11 hb (at11 _ _ _ (by simp))
  have cq : w1.cell? ⟨q, 0, none⟩ = some (.slice vA xs.length vC) := by rw [cell_of_row _ _ 0 _ _ _ (blk11 B1.out HQ.out)]; rfl
  clear hb
  by_cases hc : cx = 0
  case neg =>
    go_wp2_with (refine wpList_store_by rfl 52 _ _ rfl ⟨w.heap.size + 1, 0, none⟩ _ rfl rfl (storeEn _ _ _ 0 0 ⟨#[]⟩ 0 0 none 0 0 none 0 0 none 0 0 0 0 _ E1.out rfl) ?_)
    refine bodyPost_ret (v := .tuple #[.agg (enC 0 0 ⟨#[]⟩ 0 0 none 0 0 none 0 0 none 0 0 0 0), .int .u32 cx]) ?_ rfl ?_
    · have LR := loadE _ (w.heap.size + 1) 0 0 ⟨#[]⟩ 0 0 none 0 0 none 0 0 none 0 0 0 0 _ (setRow_heap _ _ _ (enC 0 0 ⟨#[]⟩ 0 0 none 0 0 none 0 0 none 0 0 0 0) _ _ E1.out)
      simp [results, Tryz.results67, asAddr, LR]
    · exact ⟨.inl ⟨by rw [← HCX.out]; exact hc, by rw [← HCX.out]⟩, below_setRow B1.out (by omega) _⟩
  subst hc
  obtain ⟨j, x, h1, h2, h3, h4⟩ := atX_found i s xs 0 100794368 (by decide) HCX.out.symm
  have hj : j < xs.length := (List.getElem?_eq_some_iff.1 h2).1
  obtain rfl : kx = (j : Int) := by rw [HKX.out, h1]; congr 1; omega
  obtain ⟨g, rfl⟩ := VA.out (by omega)
  have gj : (j : Int) < (xs.length : Int) := by omega
  have gj0 : (0 : Int) ≤ (j : Int) := by omega
  have LD := (HX.out.next B1.out).entry j x h2
  have H2 : Hid (xs[j]? = some x ∧ x.i = i ∧ x.s = s) := ⟨h2, h3, h4⟩
  obtain ⟨xi, xs9, xnm, xt, xrt, xd, xld, xcd, xl, xll, xcl, xh, xlh, xch, xtg, xgr, xv, xlv, xcv⟩ := x
  dsimp only at LD
  obtain ⟨NX, HNX⟩ : ∃ NX, Hid (NX = xs.length) := ⟨_, rfl⟩
  rw [← HNX.out] at cq gj
  clear h1 h2 h3 h4 hj
  go_wp2_with (first | (refine wpList_load_by rfl 52 (.tmp 24) rfl _ _ rfl LD ?_) | (refine wpList_store_by rfl 52 _ _ rfl ⟨w.heap.size + 1, 0, none⟩ _ rfl rfl (storeEn _ _ _ xi xs9 xnm xt xrt xd xld xcd xl xll xcl xh xlh xch xtg xgr _ E1.out rfl) ?_))
  refine bodyPost_ret (v := .tuple #[.agg (enC xi xs9 xnm xt xrt xd xld xcd xl xll xcl xh xlh xch xtg xgr), .int .u32 0]) ?_ rfl ?_
  · have LR := loadE _ (w.heap.size + 1) xi xs9 xnm xt xrt xd xld xcd xl xll xcl xh xlh xch xtg xgr _ (setRow_heap _ _ _ (enC xi xs9 xnm xt xrt xd xld xcd xl xll xcl xh xlh xch xtg xgr) _ _ E1.out)
    simp [results, Tryz.results67, asAddr, LR]
  · exact ⟨.inr ⟨HCX.out.symm, j, _, H2.out.1, H2.out.2.1, H2.out.2.2, rfl⟩, below_setRow B1.out (by omega) _⟩
#print axioms rfind_any
end Go.Proofs.YtajllkkbgpijiaaGreatDoor
