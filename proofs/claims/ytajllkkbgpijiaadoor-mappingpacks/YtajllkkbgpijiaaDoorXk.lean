/-
  The document's one: of one Map.
  What the program's dictionary tells of a Map, the document's tells.
  Maps that came in, put behind a gap; what Unpack answers, in one form.
  The law's plain: Maps as the document's.
  Entries and Maps that came in, as the rows read them.
  How many bytes entries have.
  Get; the example's entries and Maps.
  The dictionary of layer 12's example.
  The example of layer 12 works.
  MappingBits.
  The law's both and same: two dictionaries of the same entries.
  Of two dictionaries of the same entries, or of none: both tell the same of Maps.
  The document's side of packing: a bit, Get of a place that is there, Pack of any Maps.
  Of two dictionaries of the same entries, or of none: both pack the same.
  MappingPacks: returns true of any entries and any Maps.
  Proved: MappingPacks returns true of any entries and any Maps, where the library's table holds what the program's text lays (the tied card).
-/
import Derived.Test.YtajllkkbgpijiaaDoorIg
import Derived.Deep.AppendSrc
import Derived.Deep.Upon
import Derived.Great.BuildSlice
import Derived.Test.YtajllkkbgpijiaaDoorTk9
import Derived.WalkKit
import Derived.ProofKit
import Derived.OpenShut
import Derived.SizedLaws
import Derived.BigQuiet
import Derived.Test.YtajllkkbgpijiaaDoorGa
import Derived.Test.YtajllkkbgpijiaaDoorDn
import Derived.Test.YtajllkkbgpijiaaDoorLq
import Derived.Deep.DeepHandedRow
import Derived.MakeChecks
import Derived.Stop.LaidErr
import Derived.ChangeOld
import Derived.ShutString
namespace Go.Proofs.YtajllkkbgpijiaaDoor
open Go.RowKit

set_option linter.unusedSimpArgs false in
set_option maxHeartbeats 4000000 in
set_option maxRecDepth 100000 in
theorem one_gap (out : Bool) (pv : Value) (i s b : Int) (w : World) (h0 : 0 ≤ i) (h1 : i < 65536) (hg : gapB i s b = true) : Calls Tryd.prog 42 #[pv, mpV i s b, .bool out] w fun e w' => e = .returned (.int .u32 (if out then 100925505 else 0)) ∧ Below w.heap.size w w' := by
  have HGp : Hid (∀ W, Calls Tryd.prog 59 #[mpV i s b] W fun e w' => e = .returned (.bool true) ∧ Below W.heap.size W w') := fun W => by have := gap12_any i s b W h0 h1; rw [hg] at this; exact this
  clear hg
  cases out
  · go_enter Tryd.func42, Tryd.ntmps42
    go_wp2_with fail
    refine (HGp.out _).mono ?_
    rintro e w1 ⟨rfl, hb⟩
    have B1 : Hid (Below w.heap.size w w1) := Below.andThen (by repeat (first | exact Below.refl _ _ | apply Below.drew | apply Below.al)) hb
    clear hb
    go_wp2_with fail
    go_ret
    exact ⟨rfl, B1.out⟩
  · go_enter Tryd.func42, Tryd.ntmps42
    go_wp2_with fail
    refine (HGp.out _).mono ?_
    rintro e w1 ⟨rfl, hb⟩
    have B1 : Hid (Below w.heap.size w w1) := Below.andThen (by repeat (first | exact Below.refl _ _ | apply Below.drew | apply Below.al)) hb
    clear hb
    go_wp2_with fail
    go_ret
    exact ⟨rfl, B1.out⟩
set_option linter.unusedSimpArgs false in
set_option maxHeartbeats 4000000 in
set_option maxRecDepth 100000 in
theorem one_nil (out : Bool) (x : Mz) (w : World) (h0 : 0 ≤ x.i) (h1 : x.i < 65536) : Calls Tryd.prog 42 #[.pointer none, mpV x.i x.s x.b, .bool out] w fun e w' => e = .returned (.int .u32 (cfN out x)) ∧ Below w.heap.size w w' := by
  cases hg : gapB x.i x.s x.b with
  | true =>
    rw [show cfN out x = if out then 100925505 else 0 by unfold cfN; rw [if_pos hg]]
    exact one_gap out _ x.i x.s x.b w h0 h1 hg
  | false =>
    rw [show cfN out x = 134217728 by unfold cfN; rw [if_neg (by simp [hg])]]
    obtain ⟨i, s, b⟩ := x
    dsimp only at h0 h1 hg ⊢
    have HGp : Hid (∀ W, Calls Tryd.prog 59 #[mpV i s b] W fun e w' => e = .returned (.bool false) ∧ Below W.heap.size W w') := fun W => by have := gap12_any i s b W h0 h1; rw [hg] at this; exact this
    clear hg
    go_enter Tryd.func42, Tryd.ntmps42
    go_wp2_with fail
    refine (HGp.out _).mono ?_
    rintro e w1 ⟨rfl, hb⟩
    have B1 : Hid (Below w.heap.size w w1) := Below.andThen (by repeat (first | exact Below.refl _ _ | apply Below.drew | apply Below.al)) hb
    clear hb
    go_wp2_with fail
    go_ret
    exact ⟨rfl, B1.out⟩
set_option linter.unusedSimpArgs false in
set_option maxHeartbeats 4000000 in
set_option maxRecDepth 100000 in
theorem one_any (q : Nat) (v : Value) (nn : Int) (xs : List Xi) (base : Nat) (out : Bool) (x : Mz) (w : World) (hq : w.heap[q]? = some (.cells #[v, .int .i64 nn] 70 (0, 0))) (hx : IsX w base v xs) (hl : xs.length ≤ 1000000) (h0 : 0 ≤ x.i) (h1 : x.i < 65536) : Calls Tryd.prog 42 #[.pointer (some ⟨q, 0, none⟩), mpV x.i x.s x.b, .bool out] w fun e w' => (∃ c, OneC xs out x c ∧ e = .returned (.int .u32 c)) ∧ Below w.heap.size w w' := by
  cases hg : gapB x.i x.s x.b with
  | true => exact (one_gap out _ x.i x.s x.b w h0 h1 hg).mono fun e w' ⟨h, k⟩ => ⟨⟨_, .inl ⟨hg, rfl⟩, h⟩, k⟩
  | false =>
    obtain ⟨i, s, b⟩ := x
    dsimp only at h0 h1 hg
    have HGp : Hid (∀ W, Calls Tryd.prog 59 #[mpV i s b] W fun e w' => e = .returned (.bool false) ∧ Below W.heap.size W w') := fun W => by have := gap12_any i s b W h0 h1; rw [hg] at this; exact this
    have HFd : Hid (∀ W, Below w.heap.size w W → Calls Tryd.prog 60 #[.pointer (some ⟨q, 0, none⟩), plV i s] W (FdPost i s xs W)) := fun W hb => rfind_any q v nn xs base i s W (blk11 hb hq) (hx.next hb) hl
    have HOC : Hid (∀ c, (((atX i s xs 0 100794368).2 ≠ 0 ∧ c = (atX i s xs 0 100794368).2) ∨ ((atX i s xs 0 100794368).2 = 0 ∧ ∃ (j : Nat) (y : Xi), xs[j]? = some y ∧ y.i = i ∧ y.s = s ∧ c = if (((bits .and .u8 y.rt 4 != 0) && hasB y.t b) && !(bits .and .u8 y.rt (rgt out) == 0)) = true then 0 else 100925505)) → OneC xs out ⟨i, s, b⟩ c) := fun c h => .inr ⟨hg, h⟩
    clear hg hq hx hl
    go_enter Tryd.func42, Tryd.ntmps42
    go_wp2_with fail
    refine (HGp.out _).mono ?_
    rintro e w1 ⟨rfl, hb⟩
    have B1 : Hid (Below w.heap.size w w1) := Below.andThen (by repeat (first | exact Below.refl _ _ | apply Below.drew | apply Below.al)) hb
    have X1 : Hid (w1.heap[w.heap.size]? = some (.cells #[.int .u16 i, .int .u8 s, .int .i64 b] 66 (0, 0))) := blk11 hb (at11 _ _ _ rfl)
    have c0 : w1.cell? ⟨w.heap.size, 0, none⟩ = some (.int .u16 i) := by rw [cell_of_row _ _ 0 _ _ _ X1.out]; rfl
    have c1 : w1.cell? ⟨w.heap.size, 1, none⟩ = some (.int .u8 s) := by rw [cell_of_row _ _ 1 _ _ _ X1.out]; rfl
    clear hb
    go_wp2_with fail
    refine (HFd.out _ B1.out).mono ?_
    rintro e w2 ⟨hf, hb⟩
    have B2 : Hid (Below w.heap.size w w2) := Below.andThen B1.out hb
    have X2 : Hid (w2.heap[w.heap.size]? = some (.cells #[.int .u16 i, .int .u8 s, .int .i64 b] 66 (0, 0))) := blk11 hb X1.out
    have lw := lt_of_heap X2.out
    have lz : w2.heap.size ≠ w.heap.size := by omega
    clear hb c0 c1
    rcases hf with ⟨hc, rfl⟩ | ⟨hc, j, y, hy, hyi, hys, rfl⟩
    · have OC := HOC.out _ (.inl ⟨hc, rfl⟩)
      generalize (atX i s xs 0 100794368).2 = cc at hc OC ⊢
      go_wp2_with (refine wpList_store_by rfl 42 _ _ rfl ⟨w2.heap.size, 0, none⟩ _ rfl rfl (storeE _ _ _ 0 0 ⟨#[]⟩ 0 0 none 0 0 none 0 0 none 0 0 0 0 _ (at11 _ _ _ rfl) rfl) ?_)
      go_ret
      exact ⟨⟨_, OC, rfl⟩, below_setRow (Below.al B2.out _) (by have := B2.out.size; omega) _⟩
    · have OC := HOC.out _ (.inr ⟨hc, j, y, hy, hyi, hys, rfl⟩)
      clear hc hy hyi hys HOC
      obtain ⟨yi, ys, ynm, yt, yrt, yd, yld, ycd, yl, yll, ycl, yh, ylh, ych, ytg, ygr, yv, yvn, yvc⟩ := y
      dsimp only at OC ⊢
      have HFt : Hid (∀ W, Calls Tryd.prog 61 #[.int .u8 yt, .int .i64 b] W fun e w' => e = .returned (.bool (hasB yt b)) ∧ w' = W) := fun W => fits12_any yt b W
      generalize hasB yt b = fb at HFt OC
      obtain ⟨y0, hy0⟩ : ∃ y0 : World, Hid (y0 = (w2.alloc (.cells (enC 0 0 ⟨#[]⟩ 0 0 none 0 0 none 0 0 none 0 0 0 0) 42)).setRow w2.heap.size (enC yi ys ynm yt yrt yd yld ycd yl yll ycl yh ylh ych ytg ygr)) := ⟨_, rfl⟩
      have Y0 : y0.heap[w2.heap.size]? = some (.cells (enC yi ys ynm yt yrt yd yld ycd yl yll ycl yh ylh ych ytg ygr) 42 (0, 0)) := by rw [hy0.out]; exact setRow_heap _ _ _ _ _ _ (at11 _ _ _ rfl)
      have Y1 : y0.heap[w.heap.size]? = some (.cells #[.int .u16 i, .int .u8 s, .int .i64 b] 66 (0, 0)) := by rw [hy0.out]; exact (setRow_other _ _ _ _ (by omega)).trans (ext11 X2.out)
      have BY : Hid (Below w.heap.size w y0) := by rw [hy0.out]; exact below_setRow (Below.al B2.out _) (by have := B2.out.size; omega) _
      have d2 : y0.cell? ⟨w.heap.size, 2, none⟩ = some (.int .i64 b) := by rw [cell_of_row _ _ 2 _ _ _ Y1]; rfl
      have e3 : y0.cell? ⟨w2.heap.size, 3, none⟩ = some (.int .u8 yt) := by rw [cell_of_row _ _ 3 _ _ _ Y0]; rfl
      have e4 : y0.cell? ⟨w2.heap.size, 4, none⟩ = some (.int .u8 yrt) := by rw [cell_of_row _ _ 4 _ _ _ Y0]; rfl
      clear Y0 Y1
      cases out
      · have rg : rgt false = 2 := rfl
        rw [rg] at OC
        by_cases h4 : bits .and .u8 yrt 4 = 0
        · have OD : OneC xs false ⟨i, s, b⟩ 100925505 := by simpa [h4] using OC
          clear OC
          go_wp2_with (refine wpList_store_by rfl 42 _ _ rfl ⟨w2.heap.size, 0, none⟩ _ rfl rfl (storeE _ _ _ yi ys ynm yt yrt yd yld ycd yl yll ycl yh ylh ych ytg ygr _ (at11 _ _ _ rfl) rfl) ?_; first | rw [← hy0.out] | skip)
          go_ret
          exact ⟨⟨_, OD, rfl⟩, BY.out⟩
        have h4b : (bits .and .u8 yrt 4 == 0) = false := by simpa using h4
        by_cases hr : bits .and .u8 yrt 2 = 0
        · have OD : OneC xs false ⟨i, s, b⟩ 100925505 := by simpa [hr] using OC
          clear OC
          go_wp2_with (refine wpList_store_by rfl 42 _ _ rfl ⟨w2.heap.size, 0, none⟩ _ rfl rfl (storeE _ _ _ yi ys ynm yt yrt yd yld ycd yl yll ycl yh ylh ych ytg ygr _ (at11 _ _ _ rfl) rfl) ?_; first | rw [← hy0.out] | skip)
          go_ret
          exact ⟨⟨_, OD, rfl⟩, BY.out⟩
        have hrb : (bits .and .u8 yrt 2 == 0) = false := by simpa using hr
        cases fb
        · have OD : OneC xs false ⟨i, s, b⟩ 100925505 := by simpa [hr, h4] using OC
          clear OC
          go_wp2_with (refine wpList_store_by rfl 42 _ _ rfl ⟨w2.heap.size, 0, none⟩ _ rfl rfl (storeE _ _ _ yi ys ynm yt yrt yd yld ycd yl yll ycl yh ylh ych ytg ygr _ (at11 _ _ _ rfl) rfl) ?_; first | rw [← hy0.out] | skip)
          refine (HFt.out _).mono ?_
          rintro e z ⟨rfl, rfl⟩
          go_wp2_with fail
          go_ret
          exact ⟨⟨_, OD, rfl⟩, BY.out⟩
        · have OD : OneC xs false ⟨i, s, b⟩ 0 := by simpa [hr, h4] using OC
          clear OC
          go_wp2_with (refine wpList_store_by rfl 42 _ _ rfl ⟨w2.heap.size, 0, none⟩ _ rfl rfl (storeE _ _ _ yi ys ynm yt yrt yd yld ycd yl yll ycl yh ylh ych ytg ygr _ (at11 _ _ _ rfl) rfl) ?_; first | rw [← hy0.out] | skip)
          refine (HFt.out _).mono ?_
          rintro e z ⟨rfl, rfl⟩
          go_wp2_with fail
          go_ret
          exact ⟨⟨_, OD, rfl⟩, BY.out⟩
      · have rg : rgt true = 1 := rfl
        rw [rg] at OC
        by_cases h4 : bits .and .u8 yrt 4 = 0
        · have OD : OneC xs true ⟨i, s, b⟩ 100925505 := by simpa [h4] using OC
          clear OC
          go_wp2_with (refine wpList_store_by rfl 42 _ _ rfl ⟨w2.heap.size, 0, none⟩ _ rfl rfl (storeE _ _ _ yi ys ynm yt yrt yd yld ycd yl yll ycl yh ylh ych ytg ygr _ (at11 _ _ _ rfl) rfl) ?_; first | rw [← hy0.out] | skip)
          go_ret
          exact ⟨⟨_, OD, rfl⟩, BY.out⟩
        have h4b : (bits .and .u8 yrt 4 == 0) = false := by simpa using h4
        by_cases hr : bits .and .u8 yrt 1 = 0
        · have OD : OneC xs true ⟨i, s, b⟩ 100925505 := by simpa [hr] using OC
          clear OC
          go_wp2_with (refine wpList_store_by rfl 42 _ _ rfl ⟨w2.heap.size, 0, none⟩ _ rfl rfl (storeE _ _ _ yi ys ynm yt yrt yd yld ycd yl yll ycl yh ylh ych ytg ygr _ (at11 _ _ _ rfl) rfl) ?_; first | rw [← hy0.out] | skip)
          go_ret
          exact ⟨⟨_, OD, rfl⟩, BY.out⟩
        have hrb : (bits .and .u8 yrt 1 == 0) = false := by simpa using hr
        cases fb
        · have OD : OneC xs true ⟨i, s, b⟩ 100925505 := by simpa [hr, h4] using OC
          clear OC
          go_wp2_with (refine wpList_store_by rfl 42 _ _ rfl ⟨w2.heap.size, 0, none⟩ _ rfl rfl (storeE _ _ _ yi ys ynm yt yrt yd yld ycd yl yll ycl yh ylh ych ytg ygr _ (at11 _ _ _ rfl) rfl) ?_; first | rw [← hy0.out] | skip)
          refine (HFt.out _).mono ?_
          rintro e z ⟨rfl, rfl⟩
          go_wp2_with fail
          go_ret
          exact ⟨⟨_, OD, rfl⟩, BY.out⟩
        · have OD : OneC xs true ⟨i, s, b⟩ 0 := by simpa [hr, h4] using OC
          clear OC
          go_wp2_with (refine wpList_store_by rfl 42 _ _ rfl ⟨w2.heap.size, 0, none⟩ _ rfl rfl (storeE _ _ _ yi ys ynm yt yrt yd yld ycd yl yll ycl yh ylh ych ytg ygr _ (at11 _ _ _ rfl) rfl) ?_; first | rw [← hy0.out] | skip)
          refine (HFt.out _).mono ?_
          rintro e z ⟨rfl, rfl⟩
          go_wp2_with fail
          go_ret
          exact ⟨⟨_, OD, rfl⟩, BY.out⟩
#print axioms one_any
end Go.Proofs.YtajllkkbgpijiaaDoor
namespace Go.Proofs.YtajllkkbgpijiaaDoor
open Go.RowKit

theorem atX_miss (i s : Int) : ∀ (l : List Xi) (k : Nat) (c : Int), (∀ x ∈ l, ¬ (x.i = i ∧ x.s = s)) → (atX i s l k c).2 = if (l.any fun x => x.i == i) = true then 101253137 else c
  | [], _, c, _ => rfl
  | x :: l, k, c, h => by
    have h0 : ¬ (x.i == i && x.s == s) = true := by have := h x List.mem_cons_self; simpa using this
    simp only [atX]
    rw [if_neg h0, atX_miss i s l (k + 1) _ (fun y hy => h y (List.mem_cons_of_mem _ hy)), List.any_cons]
    by_cases h1 : (x.i == i) = true
    · rw [if_pos h1, h1]; simp
    · have h1' : (x.i == i) = false := by simpa using h1
      rw [if_neg h1, h1', Bool.false_or]
theorem atX_hit (i s : Int) : ∀ (l : List Xi) (k : Nat) (c : Int), (∃ x ∈ l, x.i = i ∧ x.s = s) → (atX i s l k c).2 = 0
  | [], _, c, h => by obtain ⟨x, hx, _⟩ := h; cases hx
  | x :: l, k, c, h => by
    simp only [atX]
    by_cases h0 : (x.i == i && x.s == s) = true
    · rw [if_pos h0]
    · rw [if_neg h0]
      obtain ⟨y, hy, h1, h2⟩ := h
      rcases List.mem_cons.1 hy with rfl | hy
      · exact absurd (by simp [h1, h2]) h0
      · exact atX_hit i s l (k + 1) _ ⟨y, hy, h1, h2⟩
theorem sort_one {S : List Em} (hS : SortE S) {a b : Em} (ha : a ∈ S) (hb : b ∈ S) (hi : a.i = b.i) (hs : a.s = b.s) : a = b := by
  obtain ⟨k, hk, rfl⟩ := List.getElem_of_mem ha
  obtain ⟨j, hj, rfl⟩ := List.getElem_of_mem hb
  rcases Nat.lt_trichotomy k j with h | h | h
  · have := List.pairwise_iff_getElem.1 hS k j hk hj h
    rw [befE_iff] at this
    omega
  · subst h; rfl
  · have := List.pairwise_iff_getElem.1 hS j k hj hk h
    rw [befE_iff] at this
    omega
theorem codes_same {wa wb : World} {lo : Nat} {es S : List Em} {lst : Mp} {xs : List Xi} (hB : Built wa lo es lst) (hD : DocX wb xs S) (hm : ∀ e, e ∈ S ↔ e ∈ es) (hS : SortE S) {out : Bool} {x : Mz} {c : Int} (h : OneC xs out x c) : cfD lst out x = c := by
  have mem : ∀ y ∈ xs, ∃ e ∈ es, ∃ v n c, y = ofE e v n c := fun y hy => by
    obtain ⟨k, hk, rfl⟩ := List.getElem_of_mem hy
    obtain ⟨v, n, c, h1, _⟩ := hD.2 k (S[k]'(by rw [← hD.1]; exact hk)) (List.getElem?_eq_getElem _)
    rw [List.getElem?_eq_getElem hk] at h1
    exact ⟨_, (hm _).1 (List.getElem_mem _), v, n, c, Option.some.inj h1⟩
  have mem2 : ∀ e ∈ es, ∃ y ∈ xs, y.i = e.i ∧ y.s = e.s := fun e he => by
    obtain ⟨k, hk, rfl⟩ := List.getElem_of_mem ((hm e).2 he)
    obtain ⟨v, n, c, h1, _⟩ := hD.2 k S[k] (List.getElem?_eq_getElem hk)
    exact ⟨_, List.mem_of_getElem? h1, rfl, rfl⟩
  rcases h with ⟨hg, rfl⟩ | ⟨hg, ⟨hc, rfl⟩ | ⟨hc, j, y, hy, hyi, hys, rfl⟩⟩
  · unfold cfD; rw [if_pos hg]
  · unfold cfD
    rw [if_neg (by simp [hg])]
    have no : ∀ y ∈ xs, ¬ (y.i = x.i ∧ y.s = x.s) := fun y hy h => hc (atX_hit _ _ _ _ _ ⟨y, hy, h⟩)
    rw [hB.key x.i x.s (fun e he h => by obtain ⟨y, hy, h1, h2⟩ := mem2 e he; exact no y hy ⟨h1.trans h.1.symm, h2.trans h.2.symm⟩)]
    rw [atX_miss _ _ _ _ _ no]
    show missC lst x.i = _
    unfold missC
    have e : anyI lst x.i = xs.any fun y => y.i == x.i := by
      rw [Bool.eq_iff_iff, List.any_eq_true]
      constructor
      · intro h
        obtain ⟨z, hz, h1⟩ := List.any_eq_true.1 h
        obtain ⟨k, hk, rfl⟩ := List.getElem_of_mem hz
        obtain ⟨a1, c1, a2, c2, a3, c3, v, lv, cv, g, _⟩ := hB.2 k (es[k]'(by rw [← hB.1]; exact hk)) (List.getElem?_eq_getElem _)
        rw [List.getElem?_eq_getElem hk] at g
        have g' := Option.some.inj g
        obtain ⟨y, hy, h2, _⟩ := mem2 _ (List.getElem_mem (by rw [← hB.1]; exact hk))
        exact ⟨y, hy, by rw [h2]; rw [g'] at h1; simpa using h1⟩
      · rintro ⟨y, hy, h1⟩
        obtain ⟨e, he, v, n, c, rfl⟩ := mem y hy
        obtain ⟨k, hk, rfl⟩ := List.getElem_of_mem he
        obtain ⟨a1, c1, a2, c2, a3, c3, v, lv, cv, g, _⟩ := hB.2 k es[k] (List.getElem?_eq_getElem hk)
        exact List.any_eq_true.2 ⟨_, List.mem_of_getElem? g, by simpa [ofE] using h1⟩
    rw [e]
  · unfold cfD
    rw [if_neg (by simp [hg])]
    obtain ⟨e, he, v, n, c, rfl⟩ := mem y (List.mem_of_getElem? hy)
    have hu : (es.any fun z => x.i == z.i && x.s == z.s) = true := by
      rw [List.any_eq_true]
      exact ⟨e, he, by have h1 : e.i = x.i := hyi; have h2 : e.s = x.s := hys; simp [h1, h2]⟩
    obtain ⟨i7, s7, nm7, t7, rt7, d7, ld7, cd7, l7, ll7, cl7, h7, lh7, ch7, tg7, gr7, v7, lv7, cv7, hq⟩ := hB.found x.i x.s hu
    rw [hq]
    have hmem := lookP_mem lst x.i x.s _ hq
    obtain ⟨k, hk, hk2⟩ := List.getElem_of_mem hmem
    have hk' : k < es.length := by rw [← hB.1]; exact hk
    obtain ⟨a1, c1, a2, c2, a3, c3, v, lv, cv, g, _⟩ := hB.2 k es[k] (List.getElem?_eq_getElem hk')
    rw [List.getElem?_eq_getElem hk, hk2] at g
    have g' := Option.some.inj g
    have hi : x.i = es[k].i := congrArg Prod.fst g'
    have hs : x.s = es[k].s := congrArg (fun z => z.2.1) g'
    have ee : e = es[k] := sort_one hS ((hm _).2 he) ((hm _).2 (List.getElem_mem hk')) ((show e.i = x.i from hyi).trans hi) ((show e.s = x.s from hys).trans hs)
    have hv : Value.agg (itC i7 s7 nm7 t7 rt7 d7 ld7 cd7 l7 ll7 cl7 h7 lh7 ch7 tg7 gr7 v7 lv7 cv7) = Value.agg (itC es[k].i es[k].s es[k].nm es[k].t es[k].rt a1 es[k].ld c1 a2 es[k].ll c2 a3 es[k].lh c3 es[k].tg es[k].gr v lv cv) := congrArg (fun z => z.2.2) g'
    rw [hv, ee]
    rfl
#print axioms codes_same
end Go.Proofs.YtajllkkbgpijiaaDoor
namespace Go.Proofs.YtajllkkbgpijiaaDoor
open Go.RowKit

/-- A Map's cells. -/
def Mz.L (x : Mz) : List Value := [.int .u16 x.i, .int .u8 x.s, .int .i64 x.b]
def flz (l : List Mz) : List Value := l.flatMap Mz.L
theorem Mz.L_len (x : Mz) : x.L.length = 3 := rfl
theorem flz_len (l : List Mz) : (flz l).length = l.length * 3 := by
  unfold flz
  induction l with
  | nil => rfl
  | cons x l ih => rw [List.flatMap_cons, List.length_append, ih, Mz.L_len, List.length_cons]; omega
theorem flz_app (l m : List Mz) : flz (l ++ m) = flz l ++ flz m := by unfold flz; rw [List.flatMap_append]
theorem flz_at (l : List Mz) (i : Nat) (x : Mz) (h : l[i]? = some x) (c : Nat) (hc : c < 3) : (flz l)[i * 3 + c]? = x.L[c]? := by
  obtain ⟨hi, he⟩ := List.getElem?_eq_some_iff.1 h
  have e : l = l.take i ++ (x :: l.drop (i + 1)) := by rw [← he, List.getElem_cons_drop, List.take_append_drop]
  have e2 : flz l = flz (l.take i) ++ (x.L ++ flz (l.drop (i + 1))) := by
    conv => lhs; rw [e]
    rw [flz_app]
    rfl
  have hl : (flz (l.take i)).length = i * 3 := by rw [flz_len, List.length_take]; congr 1; omega
  rw [e2, List.getElem?_append_right (by omega), hl, show i * 3 + c - i * 3 = c by omega, List.getElem?_append_left (by rw [Mz.L_len]; exact hc)]
theorem MzAt.news {w : World} {g off : Nat} {ms : List Mz} (h : MzAt w g off ms) : ∀ j u, (flz ms)[j]? = some u → w.cell? ((⟨g, off, none⟩ : Addr).add j) = some u := fun j u hu => by
  have hj := (List.getElem?_eq_some_iff.1 hu).1
  rw [flz_len] at hj
  obtain ⟨x, hx⟩ : ∃ x, ms[j / 3]? = some x := ⟨_, List.getElem?_eq_getElem (by omega)⟩
  have hc : j % 3 < 3 := Nat.mod_lt _ (by decide)
  have e := flz_at ms (j / 3) x hx (j % 3) hc
  rw [show j / 3 * 3 + j % 3 = j by omega, hu] at e
  obtain ⟨c0, c1, c2⟩ := h (j / 3) x hx
  rw [Addr.add_lit]
  rcases (by omega : j % 3 = 0 ∨ j % 3 = 1 ∨ j % 3 = 2) with q | q | q
  · rw [q] at e
    rw [show off + j = off + j / 3 * 3 by omega, c0]
    simpa [Mz.L] using e.symm
  · rw [q] at e
    rw [show off + j = off + j / 3 * 3 + 1 by omega, c1]
    simpa [Mz.L] using e.symm
  · rw [q] at e
    rw [show off + j = off + j / 3 * 3 + 2 by omega, c2]
    simpa [Mz.L] using e.symm
theorem mz_own {w : World} {base g cap n : Nat} {l : List Mz} (hn : l.length = n) (h : w.ownsRow base 58 3 (.slice (some ⟨g, 0, none⟩) n cap) n (flz l)) : MzAt w g 0 l := by
  rcases h.2 with ⟨h1, _⟩ | ⟨g', cap', cur, hv, hg, hh, hn', hm, hs, ht⟩
  · cases h1
  · cases hv
    intro j x hx
    have hj := (List.getElem?_eq_some_iff.1 hx).1
    have q : ∀ c, c < 3 → cur[j * 3 + c]? = x.L[c]? := fun c hc => by
      rw [← flz_at l j x hx c hc, ← ht, List.getElem?_take, if_pos (by omega)]
      simp
    refine ⟨?_, ?_, ?_⟩
    · rw [cell_of_row w g _ _ _ _ hh, Nat.zero_add]; exact q 0 (by decide)
    · rw [cell_of_row w g _ _ _ _ hh, Nat.zero_add]; exact q 1 (by decide)
    · rw [cell_of_row w g _ _ _ _ hh, Nat.zero_add]; exact q 2 (by decide)
theorem infoMz : (Tryd.prog.info? 58).map (fun i => (i.zero, i.size, i.bytes)) = some (some (.agg #[.int .u16 0, .int .u8 0, .int .i64 0]), 3, 16) := by kernel_rfl
/-- Maps that came in, behind one Map. -/
theorem wpList_append_mz {ops : Array Oper} {rest : List Oper} {o : Oper} {a : Act} {w : World} {Q : Exit → Act → World → Prop} (hgd : o.guard = none) (s x : Operand)
    (ho : o.op = .call { callee := .builtin .append, args := #[s, x], argTypes := #[23, 23] }) (base G : Nat) (hG : base ≤ G) (y : Mz) (hs : a.eval s = .slice (some ⟨G, 0, none⟩) 1 1) (hy : w.heap[G]? = some (.cells #[.int .u16 y.i, .int .u8 y.s, .int .i64 y.b] 58 (0, 0)))
    (a1 : Option Addr) (len1 cap1 : Nat) (ms : List Mz) (hx : a.eval x = .slice a1 len1 cap1) (hN : ms.length = len1) (g off : Nat) (had : 0 < ms.length → a1 = some ⟨g, off, none⟩) (hM : MzAt w g off ms) (h60 : len1 ≤ 1000) (hbase : base ≤ w.heap.size)
    (h : ∀ g' cap' w', MzAt w' g' 0 (y :: ms) → Below base w w' → wpList Tryd.prog ops Q rest (a.put o.dst (.slice (some ⟨g', 0, none⟩) (len1 + 1) cap')) w') : wpList Tryd.prog ops Q (o :: rest) a w := by
  obtain ⟨i0, hi, hz0, hz1, hz2⟩ := info_parts infoMz
  have own : w.ownsRow base 58 3 (.slice (some ⟨G, 0, none⟩) 1 1) 1 (flz [y]) := ⟨rfl, .inr ⟨G, 1, _, rfl, hG, hy, Nat.le_refl _, by decide, rfl, rfl⟩⟩
  by_cases h0 : len1 = 0
  · subst h0
    have hm : ms = [] := List.eq_nil_of_length_eq_zero hN
    subst hm
    have src : Src Tryd.prog i0.size 23 (.slice a1 0 cap1) 0 [] w := by
      cases a1 with
      | none => exact Src.ofNil w Tryd.underlying23 cap1
      | some z => exact Src.ofSlice w Tryd.underlying23 z 0 cap1 [] (by simp) (fun j u hu => by simp at hu) (fun u hu => by simp at hu)
    have hrun := run_append_nothing (P := Tryd.prog) w 23 23 o.type 58 i0 Tryd.underlying23 hi (some ⟨G, 0, none⟩) 1 1 (Nat.le_refl _) _ src
    refine wpList_plain hgd fun K hK => ?_
    unfold Oper.wp
    simp [execOp, ho, resolve, invoke, builtin, hs, hx, hrun, Result.andThen]
    exact hK _ _ (h G 1 w (mz_own rfl own) ⟨rfl, rfl, rfl, Nat.le_refl _, fun _ _ => rfl⟩)
  · obtain rfl := had (by omega)
    refine wpList_append_own (P := Tryd.prog) w hgd s x 23 ho base 58 i0 _ 3 16 Tryd.underlying23 hi hz0 hz1 hz2 rfl (by decide) _ 1 _ hs own ⟨g, off, none⟩ len1 cap1 (flz ms) hx (by rw [flz_len, hN]) hM.news (fun u hu => by
      obtain ⟨z, _, hz⟩ := List.mem_flatMap.1 hu
      simp [Mz.L] at hz
      rcases hz with rfl | rfl | rfl <;> rfl) (by unfold maxLen; omega) (by omega) hbase ?_
    intro v' w' h1 h2 _
    rw [← flz_app] at h1
    rcases h1.2 with ⟨_, h3⟩ | ⟨g', cap', cur, hv, hb', hr⟩
    · omega
    · have e : 1 + len1 = len1 + 1 := by omega
      rw [e] at hv hr h1
      subst hv
      refine h g' cap' w' (mz_own (by simp [hN]) h1) ⟨h2.os, h2.tape, h2.output, by have := h2.size; omega, fun k hk => h2.block k (by omega) (fun e' => ?_)⟩
      simp only [Value.ownBlock, Option.some.injEq] at e'
      omega
/-- What Unpack answers, in one form. -/
theorem UPost.form {w : World} {RES : Int} {ROWS : List (Int × Int × List Int)} {e : Ending} {w' : World} (h : UPost w RES ROWS e w') (RW : List (Int × Int × List Int)) (hRW : RW = if RES = 0 then ROWS else []) : ∃ va vc us, e = .returned (.tuple #[.slice va RW.length vc, .int .u32 RES]) ∧ us.length = RW.length ∧ (0 < RW.length → ∃ g, va = some ⟨g, 0, none⟩) ∧ IsV w' w.heap.size (.slice va us.length vc) us ∧ Vs w' w.heap.size us RW ∧ Below w.heap.size w w' := by
  subst hRW
  obtain ⟨h | ⟨h0, v, us, he, hv, hs⟩, hb⟩ := h
  · rw [if_neg h.1]
    exact ⟨none, 0, [], h.2, rfl, fun h => absurd h (by simp), isV_nil _ _, vs_nil _ _, hb⟩
  · rw [h0, if_pos rfl]
    have hl := hs.1
    rcases hv.form with ⟨h1, h2⟩ | ⟨g, cap, cur, h1, _⟩
    · subst h1 h2
      exact ⟨none, 0, [], by rw [← hl]; exact he, hl, fun h => by rw [← hl] at h; simp at h, hv, hs, hb⟩
    · subst h1
      exact ⟨_, cap, us, by rw [← hl]; exact he, hl, fun _ => ⟨g, rfl⟩, hv, hs, hb⟩
theorem Row.dropA {w : World} {b off len : Nat} {zs : List Int} (h : Row w (some ⟨b, off, none⟩) len zs) (n : Nat) (a3 : Option Addr) (ha : n < len → a3 = some ⟨b, off + n, none⟩) : Row w a3 (len - n) (zs.drop n) := ⟨by rw [List.length_drop, h.size], fun x hx => h.oct x (List.mem_of_mem_drop hx), fun hp => by
  obtain ⟨b', off', e, hc⟩ := h.at_ (by omega)
  cases e
  refine ⟨b, off + n, ha (by omega), fun i hi => ?_⟩
  rw [Nat.add_assoc, hc (n + i) (by omega), List.getD_eq_getElem?_getD, List.getD_eq_getElem?_getD, List.getElem?_drop]⟩
/-- The cells of a value. -/
theorem IsV.at {w : World} {base g cap : Nat} {l : List Vq} (h : IsV w base (.slice (some ⟨g, 0, none⟩) l.length cap) l) (i : Nat) (x : Vq) (hx : l[i]? = some x) : w.cell? ⟨g, i * 3, none⟩ = some (.int .u16 x.i) ∧ w.cell? ⟨g, i * 3 + 1, none⟩ = some (.int .u8 x.s) ∧ w.cell? ⟨g, i * 3 + 2, none⟩ = some (.slice (some ⟨x.g, 0, none⟩) x.r x.r) := by
  have hi : i < l.length := (List.getElem?_eq_some_iff.1 hx).1
  rcases h.form with ⟨h1, _⟩ | ⟨g', cap', cur, hv, _, hh, hn, _, hs, ht⟩
  · cases h1
  · cases hv
    have q : ∀ c, c < 3 → cur[i * 3 + c]? = x.L[c]? := fun c hc => by
      rw [← flv_at l i x hx, ← ht, List.getElem?_take, if_pos hc, List.getElem?_drop, List.getElem?_take, if_pos (by omega)]
      simp
    exact ⟨by rw [cell_of_row w g _ _ _ _ hh]; exact q 0 (by decide), by rw [cell_of_row w g _ _ _ _ hh]; exact q 1 (by decide), by rw [cell_of_row w g _ _ _ _ hh]; exact q 2 (by decide)⟩
#print axioms wpList_append_mz
#print axioms UPost.form
#print axioms IsV.at
end Go.Proofs.YtajllkkbgpijiaaDoor
namespace Go.Proofs.YtajllkkbgpijiaaDoor
open Go.RowKit

theorem info12z : (Tryd.prog.info? 66).map (fun i => (i.zero, i.size, i.bytes)) = some (some (.agg #[.int .u16 0, .int .u8 0, .int .i64 0]), 3, 16) := by kernel_rfl
/-- The document's Maps, in memory of their own. -/
abbrev IsR2 (w : World) (base : Nat) (v : Value) (l : List Mz) : Prop := w.ownsRow base 66 3 v l.length (flz l)
theorem isR2_nil (w : World) (b : Nat) : IsR2 w b (.slice none 0 0) [] := ⟨rfl, .inl ⟨rfl, rfl⟩⟩
theorem IsR2.next {w w' : World} {base : Nat} {v : Value} {l : List Mz} (h : IsR2 w base v l) (hb : Below w.heap.size w w') : IsR2 w' base v l := by
  refine ⟨h.1, ?_⟩
  rcases h.2 with ⟨h1, h2⟩ | ⟨g, cap, cur, hv, hg, hh, r⟩
  · exact .inl ⟨h1, h2⟩
  · exact .inr ⟨g, cap, cur, hv, hg, (hb.block g (lt_of_heap hh)).trans hh, r⟩
theorem IsR2.form {w : World} {base : Nat} {v : Value} {l : List Mz} (h : IsR2 w base v l) : ∃ a G cap, v = .slice a l.length cap ∧ (0 < l.length → a = some ⟨G, 0, none⟩) ∧ MzAt w G 0 l := by
  rcases h.2 with ⟨h1, h2⟩ | ⟨g, cap, cur, hv, hg, hh, hn', hm, hs, ht⟩
  · have : l = [] := List.eq_nil_of_length_eq_zero h2
    subst this
    exact ⟨none, 0, 0, h1, fun h => absurd h (by simp), fun k x hx => by simp at hx⟩
  · refine ⟨_, g, cap, hv, fun _ => rfl, ?_⟩
    intro j x hx
    have hj := (List.getElem?_eq_some_iff.1 hx).1
    have q : ∀ c, c < 3 → cur[j * 3 + c]? = x.L[c]? := fun c hc => by
      rw [← flz_at l j x hx c hc, ← ht, List.getElem?_take, if_pos (by omega)]
      simp
    refine ⟨?_, ?_, ?_⟩
    · rw [cell_of_row w g _ _ _ _ hh, Nat.zero_add]; exact q 0 (by decide)
    · rw [cell_of_row w g _ _ _ _ hh, Nat.zero_add]; exact q 1 (by decide)
    · rw [cell_of_row w g _ _ _ _ hh, Nat.zero_add]; exact q 2 (by decide)
theorem wp_append_r2 {o : Oper} {a : Act} {w : World} {K : Act → World → Prop} {Q : Exit → Act → World → Prop} (s x : Operand)
    (ho : o.op = .call { callee := .builtin .append, args := #[s, x], argTypes := #[36, 36] }) (base : Nat) (v : Value) (l : List Mz) (hs : a.eval s = v) (hown : IsR2 w base v l)
    (G : Nat) (y : Mz) (hx : a.eval x = .slice (some ⟨G, 0, none⟩) 1 1) (hy : w.heap[G]? = some (.cells #[.int .u16 y.i, .int .u8 y.s, .int .i64 y.b] 66 (0, 0))) (h63 : l.length ≤ 1000000) (hbase : base ≤ w.heap.size)
    (h : ∀ v' w', IsR2 w' base v' (l ++ [y]) → w.grownBy w' v.ownBlock → K (a.put o.dst v') w') : o.wp Tryd.prog a w K Q := by
  obtain ⟨i0, hi, hz0, hz1, hz2⟩ := info_parts info12z
  refine wp_append_own (P := Tryd.prog) w s x 36 ho base 66 i0 _ 3 16 Tryd.underlying36 hi hz0 hz1 hz2 rfl (by decide) v l.length _ hs hown ⟨G, 0, none⟩ 1 1 y.L hx (Mz.L_len y) (fun j u hu => by
    rw [show (⟨G, 0, none⟩ : Addr).add j = ⟨G, 0 + j, none⟩ from by simp [Addr.add]; try omega, cell_of_row _ _ _ _ _ _ hy, Nat.zero_add, ← Array.getElem?_toList]
    exact hu) (fun u hu => by simp [Mz.L] at hu; rcases hu with rfl | rfl | rfl <;> rfl) (by unfold maxLen; omega) (by omega) hbase ?_
  intro v' w' h1 h2 _
  refine h v' w' ?_ h2
  show w'.ownsRow base 66 3 v' (l ++ [y]).length (flz (l ++ [y]))
  rw [flz_app, List.length_append]
  have : flz [y] = y.L := by unfold flz; simp
  rw [this]
  exact h1
/-- A Map's place, out of memory. -/
theorem MzAt.place {w : World} {g off k : Nat} {ms : List Mz} {x : Mz} (h : MzAt w g off ms) (hx : ms[k]? = some x) : (loadVar 52 ⟨g, off + k * 3, none⟩).run Tryd.prog w = .ok (plV x.i x.s) w := by
  obtain ⟨m0, m1, _⟩ := h k x hx
  cases hq : Tryd.prog.info? 52 with
  | none => have := sizeP; simp [hq] at this
  | some i =>
    have hi : i.size = 2 := by have := sizeP; simpa [hq] using this
    refine Go.Lib.rl_loadVar_cells (P := Tryd.prog) 52 i hq aggP g (off + k * 3) [.int .u16 x.i, .int .u8 x.s] (by simp [hi]) w (fun j v hv => ?_)
    match j, hv with
    | 0, hv => simp at hv; subst hv; exact m0
    | 1, hv => simp at hv; subst hv; exact m1
    | j + 2, hv => simp at hv

set_option linter.unusedSimpArgs false in
set_option maxHeartbeats 4000000 in
set_option maxRecDepth 100000 in
theorem plain_any (ad : Option Addr) (g off cap : Nat) (ms : List Mz) (w : World) (had : 0 < ms.length → ad = some ⟨g, off, none⟩) (hM : MzAt w g off ms) (h100 : ms.length ≤ 1000) :
    Calls Tryd.prog 9 #[.slice ad ms.length cap] w fun e w' => ∃ a G c, e = .returned (.slice a ms.length c) ∧ (0 < ms.length → a = some ⟨G, 0, none⟩) ∧ MzAt w' G 0 ms ∧ Below w.heap.size w w' := by
  have HAD : Hid (0 < ms.length → ad = some ⟨g, off, none⟩) := had
  have HM : Hid (MzAt w g off ms) := hM
  obtain ⟨N, HN⟩ : ∃ N, Hid (ms.length = N) := ⟨_, rfl⟩
  clear had hM
  rw [HN.out] at h100 ⊢
  go_enter Tryd.func9, Tryd.ntmps9
  go_wp2_with fail
  go_loopw [3, 4] (fun cv iv wr => ∃ k : Nat, k ≤ N ∧ iv = .int .i64 (k : Int) ∧ Hid (Below w.heap.size w wr ∧ IsR2 wr w.heap.size cv (ms.take k))) (fun _ iv _ => N - (intOf iv).toNat)
  case atStart => exact ⟨0, Nat.zero_le _, rfl, Below.refl _ _, isR2_nil _ _⟩
  case round =>
    obtain ⟨k, hk, rfl, HB⟩ := hrel
    by_cases hkN : k < N
    · obtain rfl := HAD.out (by have := HN.out; omega)
      have gk : (k : Int) < (N : Int) := by omega
      have gk0 : (0 : Int) ≤ (k : Int) := by omega
      obtain ⟨x, hx⟩ : ∃ x, ms[k]? = some x := ⟨_, List.getElem?_eq_getElem (by have := HN.out; omega)⟩
      have HX : Hid (ms[k]? = some x) := hx
      obtain ⟨i, s, b⟩ := x
      have wk : IntKind.i64.wrap ((k : Int) + 1) = ((k + 1 : Nat) : Int) := by rw [IntKind.wrap_i64]; omega
      clear hx
      obtain ⟨i8, hi8, hz8, hs8, -⟩ := info_parts info12z
      go_wp2_with fail
      refine wp_region_held_drew (S := fun x => Below w.heap.size w x) (by kernel_rfl) (Below.drew HB.out.1) (fun hHeld => ?_)
      refine tk 0 (u3) rfl (.inl ⟨by rfl, ?_⟩) ?_
      · intro w9 hSw
        try dsimp only at hSw
        go_simp
        all_goals try decide
        all_goals try assumption
        all_goals try omega
      try simp only [Act.put, gA, gS, gZ, sA, sZ, sS]
      refine tk 1 (.slice (some ⟨g, off, none⟩) N cap) rfl (.inl ⟨by rfl, ?_⟩) ?_
      · intro w9 hSw
        try dsimp only at hSw
        go_simp
        all_goals try decide
        all_goals try assumption
        all_goals try omega
      try simp only [Act.put, gA, gS, gZ, sA, sZ, sS]
      refine tk 2 (.int .i64 (k : Int)) rfl (.inl ⟨by rfl, ?_⟩) ?_
      · intro w9 hSw
        try dsimp only at hSw
        go_simp
        all_goals try decide
        all_goals try assumption
        all_goals try omega
      try simp only [Act.put, gA, gS, gZ, sA, sZ, sS]
      refine tk 3 (.pointer (some ⟨g, off + k * 3, none⟩)) rfl (.inl ⟨by rfl, ?_⟩) ?_
      · intro w9 hSw
        try dsimp only at hSw
        go_simp
        all_goals try decide
        all_goals try assumption
        all_goals try omega
      try simp only [Act.put, gA, gS, gZ, sA, sZ, sS]
      refine tk 4 (.pointer (some ⟨g, off + k * 3, none⟩)) rfl (.inl ⟨by rfl, ?_⟩) ?_
      · intro w9 hSw
        try dsimp only at hSw
        go_simp
        all_goals try decide
        all_goals try assumption
        all_goals try omega
      try simp only [Act.put, gA, gS, gZ, sA, sZ, sS]
      refine tk 5 (plV i s) rfl (.inl ⟨by rfl, ?_⟩) ?_
      · intro w9 hSw
        try dsimp only at hSw
        exact ex_load11 52 (.tmp 15) rfl _ _ rfl ((HM.out.next hSw).place HX.out)
      try simp only [Act.put, gA, gS, gZ, sA, sZ, sS]
      refine tk 6 (.slice (some ⟨g, off, none⟩) N cap) rfl (.inl ⟨by rfl, ?_⟩) ?_
      · intro w9 hSw
        try dsimp only at hSw
        go_simp
        all_goals try decide
        all_goals try assumption
        all_goals try omega
      try simp only [Act.put, gA, gS, gZ, sA, sZ, sS]
      refine tk 7 (.int .i64 (k : Int)) rfl (.inl ⟨by rfl, ?_⟩) ?_
      · intro w9 hSw
        try dsimp only at hSw
        go_simp
        all_goals try decide
        all_goals try assumption
        all_goals try omega
      try simp only [Act.put, gA, gS, gZ, sA, sZ, sS]
      refine tk 8 (.pointer (some ⟨g, off + k * 3, none⟩)) rfl (.inl ⟨by rfl, ?_⟩) ?_
      · intro w9 hSw
        try dsimp only at hSw
        go_simp
        all_goals try decide
        all_goals try assumption
        all_goals try omega
      try simp only [Act.put, gA, gS, gZ, sA, sZ, sS]
      refine tk 9 (.pointer (some ⟨g, off + k * 3 + 2, none⟩)) rfl (.inl ⟨by rfl, ?_⟩) ?_
      · intro w9 hSw
        try dsimp only at hSw
        go_simp
        all_goals try decide
        all_goals try assumption
        all_goals try omega
      try simp only [Act.put, gA, gS, gZ, sA, sZ, sS]
      refine tk 10 (.int .i64 b) rfl (.inl ⟨by rfl, ?_⟩) ?_
      · intro w9 hSw
        try dsimp only at hSw
        obtain ⟨-, -, c2⟩ := (HM.out.next hSw) k _ HX.out
        go_simp
        all_goals try assumption
      try simp only [Act.put, gA, gS, gZ, sA, sZ, sS]
      refine tk 11 (.agg (#[.int .u16 i, .int .u8 s, .int .i64 b])) rfl (.inl ⟨by rfl, ?_⟩) ?_
      · intro w9 hSw
        try dsimp only at hSw
        go_simp
        all_goals try decide
        all_goals try assumption
        all_goals try omega
      try simp only [Act.put, gA, gS, gZ, sA, sZ, sS]
      refine wpAnyH_ready (rs := [12]) (by kernel_rfl) (by simp) ?_
      refine AllReadyH.cons rfl (fun K' hK => ?_) AllReadyH.nil
      rw [if_pos (by rfl)]
      simp only [gA, gS, gZ]
      refine wp_buildSlice 36 66 1 _ rfl (#[.int .u16 i, .int .u8 s, .int .i64 b]) i8 _ Tryd.underlying36 hi8 hz8 (by rw [hs8]; decide) (by rw [hs8]; decide) (by rw [hs8]; kernel_rfl) ?_
      refine hK.out _ _ (Below.al hHeld _) (fun hHeld => ?_)
      clear hK K'
      try simp only [Act.put, gA, gS, gZ, sA, sZ, sS]
      have X8 := HB.out.2.next (Below.al (Below.drew (Below.refl _ _)) (.cells (#[.int .u16 i, .int .u8 s, .int .i64 b]) 66))
      have Y8 := at11 wr.drew (.cells (#[.int .u16 i, .int .u8 s, .int .i64 b]) 66) wr.heap.size rfl
      refine wpAnyH_ready (rs := [13]) (by kernel_rfl) (by simp) ?_
      refine AllReadyH.cons rfl (fun K' hK => ?_) AllReadyH.nil
      rw [if_pos (by rfl)]
      simp only [gA, gS, gZ]
      refine wp_append_r2 (.tmp 11) (.tmp 23) rfl w.heap.size u3 _ rfl X8 wr.heap.size ⟨i, s, b⟩ rfl Y8 (by rw [List.length_take]; omega) hHeld.size ?_
      intro v2 w8 hx2 hg2
      refine hK.out _ _ (hHeld.grown hg2 hHeld.size (fun j hj => (X8.lt j hj).1)) (fun hHeld => ?_)
      clear hK K'
      try simp only [Act.put, gA, gS, gZ, sA, sZ, sS]
      refine tk 14 (v2) rfl (.inl ⟨by rfl, ?_⟩) ?_
      · intro w9 hSw
        try dsimp only at hSw
        go_simp
        all_goals try decide
        all_goals try assumption
        all_goals try omega
      try simp only [Act.put, gA, gS, gZ, sA, sZ, sS]
      refine wpAnyH_done (by kernel_rfl) ?_ _
      have NW : Hid (Below w.heap.size w w8 ∧ IsR2 w8 w.heap.size v2 (ms.take (k + 1))) := ⟨hHeld, by rw [show ms.take (k + 1) = ms.take k ++ [⟨i, s, b⟩] from by obtain ⟨q1, q2⟩ := List.getElem?_eq_some_iff.1 HX.out; rw [List.take_succ_eq_append_getElem q1, q2]]; exact hx2⟩
      clear hHeld hx2 hg2 X8 Y8
      go_wp2_with fail
      exact ⟨⟨k + 1, by omega, by go_num, NW⟩, by simp [intOf]; omega⟩
    · obtain rfl : k = N := by omega
      obtain ⟨a, G, c, e1, e2, e3⟩ := HB.out.2.form
      have el : (ms.take k).length = k := by rw [List.length_take]; have := HN.out; omega
      have et : ms.take k = ms := List.take_of_length_le (by have := HN.out; omega)
      rw [el] at e1 e2
      rw [et] at e3
      subst e1
      have F : Hid ((0 < k → a = some ⟨G, 0, none⟩) ∧ MzAt wr G 0 ms ∧ Below w.heap.size w wr) := ⟨e2, e3, HB.out.1⟩
      clear e2 e3 HB
      go_wp2_with fail
      go_ret
      exact ⟨_, G, _, rfl, F.out⟩
#print axioms plain_any
end Go.Proofs.YtajllkkbgpijiaaDoor
namespace Go.Proofs.YtajllkkbgpijiaaDoor
open Go.ChangeShapes Go.WideShapes Go.ChangeAt Go.RowKit

theorem cellsO : Tryd.prog.cellsOf 5 = 1 := by kernel_rfl
theorem cellsOs : Tryd.prog.cellsOf 30 = 1 := by kernel_rfl
theorem cellsOh : Tryd.prog.cellsOf 40 = 1 := by kernel_rfl
theorem wf_o {n : Int} (h : (Lit.int .u8 n).wf = true) : 0 ≤ n ∧ n < 256 := by
  simp [Lit.wf, IntKind.min, IntKind.max, IntKind.signed, IntKind.bits] at h
  omega
theorem wf_h {n : Int} (h : (Lit.int .u16 n).wf = true) : 0 ≤ n ∧ n < 65536 := by
  simp [Lit.wf, IntKind.min, IntKind.max, IntKind.signed, IntKind.bits] at h
  omega
theorem mem_wA {H : Type} {P : Program} {e : TypeId} : ∀ {l : List (DataW H)} {d : DataW H}, d ∈ l → ∀ n ∈ d.weights P e, n ∈ DataW.weightsAll P e l
  | d0 :: l, d, hd, n, hn => by
    simp only [DataW.weightsAll, List.mem_append]
    rcases List.mem_cons.1 hd with rfl | hd
    · exact .inl hn
    · exact .inr (mem_wA hd n hn)
theorem bytesO : Tryd.prog.bytesOf 5 = 1 := by kernel_rfl
/-- Bytes that came in. -/
theorem open_rowO {H : Type} {enc : TypeId × Value → H} {w : World} {base : Nat} {spare : Nat → Bool} {held : Bool} {fuel : Nat} {cs : List Value} {y : DataW H × List MemPlace}
    (h : DataW.trod enc Tryd.prog w base spare held fuel 30 cs = some y) (hw : ∀ n ∈ y.1.weights Tryd.prog 30, n ≤ reachBytes) : ∃ a zs cap, cs = [.slice a zs.length cap] ∧ Row w a zs.length zs ∧ zs.length ≤ cap ∧ cap ≤ maxLen ∧ zs.length ≤ 140737488355328 := by
  rcases open_ints Tryd.underlying30 Tryd.underlying5 cellsO h with ⟨rfl, _⟩ | ⟨x, l, c, zs, rfl, _, hl, hm, hz, rfl, hcell, hwz⟩
  · exact ⟨none, [], 0, rfl, row_nil w, Nat.le_refl _, by decide, by simp⟩
  · have hlz : l ≤ zs.length := by rw [hz]; split <;> omega
    have e : (zs.take l).length = l := by rw [List.length_take]; omega
    have hw2 := hw (((lits (H := H) .u8 (zs.take l)).length + (lits (H := H) .u8 (zs.drop l)).length) * Tryd.prog.bytesOf 5) (by simp [DataW.weights, Tryd.underlying30])
    have hl8 : (zs.take l).length ≤ 140737488355328 := by
      rw [bytesO] at hw2
      have := reachBytes_lt
      simp only [lits, List.length_map, Nat.mul_one] at hw2
      omega
    refine ⟨some x, zs.take l, c, by rw [e], ⟨rfl, fun n hn => wf_o (hwz n (List.mem_of_mem_take hn)), fun hp => ?_⟩, by omega, hm, hl8⟩
    rw [e] at hp
    obtain ⟨b, off, spot⟩ := x
    have h0 := hcell 0 (by omega)
    have hs : spot = none := by simpa [Addr.add] using World.cell?_spot h0
    subst hs
    refine ⟨b, off, rfl, fun i hi => ?_⟩
    rw [e] at hi
    have := hcell i (by omega)
    rw [show (⟨b, off, none⟩ : Addr).add i = ⟨b, off + i, none⟩ from by simp [Addr.add]] at this
    rw [this]
    simp [List.getD_eq_getElem?_getD, hi]
theorem cellsEn : Tryd.prog.cellsOf 42 = 10 := by kernel_rfl
theorem cellsSt : Tryd.prog.cellsOf 9 = 1 := by kernel_rfl
/-- An entry that came in: what is sure of it. -/
structure EmW (w : World) (e : Em) : Prop where
  rd : SlOk w e.d e.ld e.cd e.zd
  rl : SlOk w e.l e.ll e.cl e.zl
  rh : SlOk w e.h e.lh e.ch e.zh
  b1 : e.ld ≤ 140737488355328
  b2 : e.ll ≤ 140737488355328
  b3 : e.lh ≤ 140737488355328
  b4 : e.nm.size ≤ 140737488355328
  wi : 0 ≤ e.i ∧ e.i < 65536
  ws : 0 ≤ e.s ∧ e.s < 256
  wt : 0 ≤ e.t ∧ e.t < 256
  wr : 0 ≤ e.rt ∧ e.rt < 256
  wg : 0 ≤ e.gr ∧ e.gr < 256
theorem EmW.next {w w' : World} {e : Em} (h : EmW w e) (hb : Below w.heap.size w w') : EmW w' e := ⟨h.rd.next hb, h.rl.next hb, h.rh.next hb, h.b1, h.b2, h.b3, h.b4, h.wi, h.ws, h.wt, h.wr, h.wg⟩
structure IsEn (w : World) (a : Option Addr) (len : Nat) (es : List Em) : Prop where
  size : es.length = len
  ok : ∀ e ∈ es, EmW w e
  at_ : 0 < len → ∃ b off, a = some ⟨b, off, none⟩ ∧ ∀ (k : Nat) (e : Em), es[k]? = some e → EmAtO w b off k e
set_option maxRecDepth 100000 in
theorem open_en1 {H : Type} {enc : TypeId × Value → H} {w : World} {base : Nat} {spare : Nat → Bool} {held : Bool} {fuel : Nat} {cs : List Value} {y : DataW H × List MemPlace}
    (h : DataW.trod enc Tryd.prog w base spare held fuel 42 cs = some y) (hw : ∀ n ∈ y.1.weights Tryd.prog 42, n ≤ reachBytes) :
    ∃ x : Em, EmW w x ∧ cs = [Value.int .u16 x.i, .int .u8 x.s, .string x.nm, .int .u8 x.t, .int .u8 x.rt, .slice x.d x.ld x.cd, .slice x.l x.ll x.cl, .slice x.h x.lh x.ch, .int .u8 x.tg, .int .u8 x.gr] := by
  obtain ⟨xs, m, _, ey, hl, hlen, hf⟩ := DataW.trod_struct Tryd.underlying42 h
  rw [cellsEn] at hl
  have HW : Hid (∀ (t : TypeId) (j : Nat) (z : DataW H × List MemPlace), ([40, 5, 9, 5, 5, 30, 30, 30, 5, 5] : List TypeId)[j]? = some t → xs[j]? = some z → ∀ n ∈ z.1.weights Tryd.prog t, n ≤ reachBytes) := fun t j z ht hz n hn => hw n (by
    subst ey
    simp only [DataW.weights, Tryd.underlying42]
    exact DataW.weights_mem_each (j := j) (t := t) (d := z.1) ht (by rw [List.getElem?_map, hz]; rfl) n hn)
  clear hw ey
  match cs, hl with
  | [c0, c1, c2, c3, c4, c5, c6, c7, c8, c9], _ =>
    have f0 : DataW.trod enc Tryd.prog w base spare held m 40 (([c0, c1, c2, c3, c4, c5, c6, c7, c8, c9].drop 0).take (Tryd.prog.cellsOf 40)) = xs[0]? := hf 0 _ rfl
    have f1 : DataW.trod enc Tryd.prog w base spare held m 5 (([c0, c1, c2, c3, c4, c5, c6, c7, c8, c9].drop 1).take (Tryd.prog.cellsOf 5)) = xs[1]? := hf 1 _ rfl
    have f2 : DataW.trod enc Tryd.prog w base spare held m 9 (([c0, c1, c2, c3, c4, c5, c6, c7, c8, c9].drop 2).take (Tryd.prog.cellsOf 9)) = xs[2]? := hf 2 _ rfl
    have f3 : DataW.trod enc Tryd.prog w base spare held m 5 (([c0, c1, c2, c3, c4, c5, c6, c7, c8, c9].drop 3).take (Tryd.prog.cellsOf 5)) = xs[3]? := hf 3 _ rfl
    have f4 : DataW.trod enc Tryd.prog w base spare held m 5 (([c0, c1, c2, c3, c4, c5, c6, c7, c8, c9].drop 4).take (Tryd.prog.cellsOf 5)) = xs[4]? := hf 4 _ rfl
    have f5 : DataW.trod enc Tryd.prog w base spare held m 30 (([c0, c1, c2, c3, c4, c5, c6, c7, c8, c9].drop 5).take (Tryd.prog.cellsOf 30)) = xs[5]? := hf 5 _ rfl
    have f6 : DataW.trod enc Tryd.prog w base spare held m 30 (([c0, c1, c2, c3, c4, c5, c6, c7, c8, c9].drop 6).take (Tryd.prog.cellsOf 30)) = xs[6]? := hf 6 _ rfl
    have f7 : DataW.trod enc Tryd.prog w base spare held m 30 (([c0, c1, c2, c3, c4, c5, c6, c7, c8, c9].drop 7).take (Tryd.prog.cellsOf 30)) = xs[7]? := hf 7 _ rfl
    have f8 : DataW.trod enc Tryd.prog w base spare held m 5 (([c0, c1, c2, c3, c4, c5, c6, c7, c8, c9].drop 8).take (Tryd.prog.cellsOf 5)) = xs[8]? := hf 8 _ rfl
    have f9 : DataW.trod enc Tryd.prog w base spare held m 5 (([c0, c1, c2, c3, c4, c5, c6, c7, c8, c9].drop 9).take (Tryd.prog.cellsOf 5)) = xs[9]? := hf 9 _ rfl
    rw [cellsOh] at f0
    rw [cellsO] at f1 f3 f4 f8 f9
    rw [cellsSt] at f2
    rw [cellsOs] at f5 f6 f7
    match xs, hlen with
    | [y0, y1, y2, y3, y4, y5, y6, y7, y8, y9], _ =>
      obtain ⟨i, e0, _, g0⟩ := DataW.trod_int Tryd.underlying40 f0
      obtain ⟨s, e1, _, g1⟩ := DataW.trod_int Tryd.underlying5 f1
      obtain ⟨nm, e2, x2, _⟩ := DataW.trod_string Tryd.underlying9 f2
      obtain ⟨t, e3, _, g3⟩ := DataW.trod_int Tryd.underlying5 f3
      obtain ⟨rt, e4, _, g4⟩ := DataW.trod_int Tryd.underlying5 f4
      obtain ⟨d, zd, cd, e5, rd, pd, qd, od⟩ := open_rowO f5 (HW.out 30 5 y5 rfl rfl)
      obtain ⟨l, zl, cl, e6, rl, pl, ql, ol⟩ := open_rowO f6 (HW.out 30 6 y6 rfl rfl)
      obtain ⟨hh, zhh, chh, e7, rhh, phh, qhh, ohh⟩ := open_rowO f7 (HW.out 30 7 y7 rfl rfl)
      obtain ⟨tg, e8, _, g8⟩ := DataW.trod_int Tryd.underlying5 f8
      obtain ⟨gr, e9, _, g9⟩ := DataW.trod_int Tryd.underlying5 f9
      have hnm := HW.out 9 2 y2 rfl rfl
      rw [x2] at hnm
      have hn1 := hnm nm.data.toList.length (by simp [DataW.weights])
      have hn2 : nm.size ≤ 140737488355328 := by
        have := reachBytes_lt
        have e : nm.data.toList.length = nm.size := rfl
        omega
      simp at e0 e1 e2 e3 e4 e5 e6 e7 e8 e9
      subst e0 e1 e2 e3 e4 e5 e6 e7 e8 e9
      exact ⟨⟨i, s, nm, t, rt, d, zd.length, cd, l, zl.length, cl, hh, zhh.length, chh, tg, gr, zd, zl, zhh⟩, ⟨⟨rd, pd, qd⟩, ⟨rl, pl, ql⟩, ⟨rhh, phh, qhh⟩, od, ol, ohh, hn2, wf_h g0, wf_o g1, wf_o g3, wf_o g4, wf_o g9⟩, rfl⟩
set_option maxRecDepth 100000 in
theorem open_en {H : Type} {enc : TypeId × Value → H} {w : World} {base : Nat} {spare : Nat → Bool} {held : Bool} {fuel : Nat} {v : Value} {y : DataW H × List MemPlace}
    (h : DataW.trod enc Tryd.prog w base spare held fuel 22 [v] = some y) (hw : ∀ n ∈ y.1.weights Tryd.prog 22, n ≤ reachBytes) :
    ∃ a len cap l, v = .slice a len cap ∧ IsEn w a len l ∧ len ≤ cap ∧ cap ≤ maxLen := by
  rcases DataW.trod_slice Tryd.underlying22 h with ⟨h0, _⟩ | ⟨a, len, cap, elems, rest, n, _, h0, rfl, hb, hl, hm, hlen, hel, hsp, hns⟩
  · cases h0
    exact ⟨none, 0, 0, [], rfl, ⟨rfl, (fun x hx => by cases hx), fun hp => absurd hp (by decide)⟩, Nat.le_refl _, by decide⟩
  · cases h0
    rw [cellsEn] at hel
    have each : ∀ i : Nat, ∃ X : Em, i < len → EmW w X ∧ (∀ j v, [Value.int .u16 X.i, .int .u8 X.s, .string X.nm, .int .u8 X.t, .int .u8 X.rt, .slice X.d X.ld X.cd, .slice X.l X.ll X.cl, .slice X.h X.lh X.ch, .int .u8 X.tg, .int .u8 X.gr][j]? = some v → w.cell? ((a.add (i * 10)).add j) = some v) := fun i => by
      by_cases hi : i < len
      · have := hel i hi
        rw [List.getElem?_eq_getElem (by omega), Option.bind_eq_some_iff] at this
        obtain ⟨cs, hcs, ht⟩ := this
        obtain ⟨x, hx, rfl⟩ := open_en1 ht (fun n hn => hw n (by
          simp only [DataW.weights, Tryd.underlying22, List.mem_cons, List.mem_append]
          exact .inr (.inl (mem_wA (List.mem_map.2 ⟨_, List.getElem_mem _, rfl⟩) n hn))))
        refine ⟨x, fun _ => ⟨hx, fun j v hv => ?_⟩⟩
        have hj : j < 10 := (List.getElem?_eq_some_iff.1 hv).1
        rw [(World.cells?_some hcs).2.2 j hj]; exact hv
      · exact ⟨⟨0, 0, ⟨#[]⟩, 0, 0, none, 0, 0, none, 0, 0, none, 0, 0, 0, 0, [], [], []⟩, fun h => absurd h hi⟩
    obtain ⟨f, hf⟩ := Classical.axiomOfChoice each
    refine ⟨some a, len, cap, (List.range len).map f, rfl, ⟨by simp, fun x hx => ?_, fun hp => ?_⟩, hl, hm⟩
    · obtain ⟨i, hi, rfl⟩ := List.mem_map.1 hx
      exact (hf i (List.mem_range.1 hi)).1
    · obtain ⟨b, off, spot⟩ := a
      have h0 := (hf 0 hp).2 0 _ rfl
      have hs : spot = none := by simpa [Addr.add] using World.cell?_spot h0
      subst hs
      refine ⟨b, off, rfl, fun i x hx => ?_⟩
      obtain ⟨hi, rfl⟩ : i < len ∧ f i = x := by
        rw [List.getElem?_map] at hx
        by_cases hi : i < len
        · rw [List.getElem?_range hi] at hx
          exact ⟨hi, by simpa using hx⟩
        · rw [List.getElem?_eq_none (by simpa using hi)] at hx
          cases hx
      have hc := (hf i hi).2
      simp only [Addr.add_lit] at hc
      exact ⟨by simpa using hc 0 _ rfl, hc 1 _ rfl, hc 2 _ rfl, hc 3 _ rfl, hc 4 _ rfl, hc 5 _ rfl, hc 6 _ rfl, hc 7 _ rfl, hc 8 _ rfl, hc 9 _ rfl⟩
theorem cellsMz : Tryd.prog.cellsOf 58 = 3 := by kernel_rfl
theorem cellsPl : Tryd.prog.cellsOf 52 = 2 := by kernel_rfl
theorem cellsIn : Tryd.prog.cellsOf 3 = 1 := by kernel_rfl
set_option maxRecDepth 100000 in
theorem open_mz1 {H : Type} {enc : TypeId × Value → H} {w : World} {base : Nat} {spare : Nat → Bool} {held : Bool} {fuel : Nat} {cs : List Value} {y : DataW H × List MemPlace}
    (h : DataW.trod enc Tryd.prog w base spare held fuel 58 cs = some y) : ∃ x : Mz, (0 ≤ x.i ∧ x.i < 65536) ∧ cs = [.int .u16 x.i, .int .u8 x.s, .int .i64 x.b] := by
  obtain ⟨xs, m, _, ey, hl, hlen, hf⟩ := DataW.trod_struct Tryd.underlying58 h
  rw [cellsMz] at hl
  match cs, hl with
  | [c0, c1, c2], _ =>
    have f0 : DataW.trod enc Tryd.prog w base spare held m 52 (([c0, c1, c2].drop 0).take (Tryd.prog.cellsOf 52)) = xs[0]? := hf 0 _ rfl
    have f1 : DataW.trod enc Tryd.prog w base spare held m 3 (([c0, c1, c2].drop 2).take (Tryd.prog.cellsOf 3)) = xs[1]? := hf 1 _ rfl
    rw [cellsPl] at f0
    rw [cellsIn] at f1
    match xs, hlen with
    | [y0, y1], _ =>
      obtain ⟨b, e2, _, _⟩ := DataW.trod_int Tryd.underlying3 f1
      obtain ⟨zs, m2, _, _, hl2, hlen2, hf2⟩ := DataW.trod_struct Tryd.underlying52 f0
      have g0 : DataW.trod enc Tryd.prog w base spare held m2 40 (([c0, c1].drop 0).take (Tryd.prog.cellsOf 40)) = zs[0]? := hf2 0 _ rfl
      have g1 : DataW.trod enc Tryd.prog w base spare held m2 5 (([c0, c1].drop 1).take (Tryd.prog.cellsOf 5)) = zs[1]? := hf2 1 _ rfl
      rw [cellsOh] at g0
      rw [cellsO] at g1
      match zs, hlen2 with
      | [z0, z1], _ =>
        obtain ⟨i, e0, _, k0⟩ := DataW.trod_int Tryd.underlying40 g0
        obtain ⟨s, e1, _, _⟩ := DataW.trod_int Tryd.underlying5 g1
        simp at e0 e1 e2
        subst e0 e1 e2
        exact ⟨⟨i, s, b⟩, wf_h k0, rfl⟩
/-- Maps that came in. -/
structure IsMz (w : World) (a : Option Addr) (len : Nat) (ms : List Mz) : Prop where
  size : ms.length = len
  ok : ∀ x ∈ ms, 0 ≤ x.i ∧ x.i < 65536
  at_ : 0 < len → ∃ b off, a = some ⟨b, off, none⟩ ∧ MzAt w b off ms
theorem open_mz {H : Type} {enc : TypeId × Value → H} {w : World} {base : Nat} {spare : Nat → Bool} {held : Bool} {fuel : Nat} {v : Value} {y : DataW H × List MemPlace}
    (h : DataW.trod enc Tryd.prog w base spare held fuel 23 [v] = some y) :
    ∃ a len cap l, v = .slice a len cap ∧ IsMz w a len l ∧ len ≤ cap ∧ cap ≤ maxLen := by
  rcases DataW.trod_slice Tryd.underlying23 h with ⟨h0, _⟩ | ⟨a, len, cap, elems, rest, n, _, h0, rfl, hb, hl, hm, hlen, hel, hsp, hns⟩
  · cases h0
    exact ⟨none, 0, 0, [], rfl, ⟨rfl, (fun x hx => by cases hx), fun hp => absurd hp (by decide)⟩, Nat.le_refl _, by decide⟩
  · cases h0
    rw [cellsMz] at hel
    have each : ∀ i : Nat, ∃ X : Mz, i < len → (0 ≤ X.i ∧ X.i < 65536) ∧ (∀ j v, [Value.int .u16 X.i, .int .u8 X.s, .int .i64 X.b][j]? = some v → w.cell? ((a.add (i * 3)).add j) = some v) := fun i => by
      by_cases hi : i < len
      · have := hel i hi
        rw [List.getElem?_eq_getElem (by omega), Option.bind_eq_some_iff] at this
        obtain ⟨cs, hcs, ht⟩ := this
        obtain ⟨x, hx, rfl⟩ := open_mz1 ht
        refine ⟨x, fun _ => ⟨hx, fun j v hv => ?_⟩⟩
        have hj : j < 3 := (List.getElem?_eq_some_iff.1 hv).1
        rw [(World.cells?_some hcs).2.2 j hj]; exact hv
      · exact ⟨⟨0, 0, 0⟩, fun h => absurd h hi⟩
    obtain ⟨f, hf⟩ := Classical.axiomOfChoice each
    refine ⟨some a, len, cap, (List.range len).map f, rfl, ⟨by simp, fun x hx => ?_, fun hp => ?_⟩, hl, hm⟩
    · obtain ⟨i, hi, rfl⟩ := List.mem_map.1 hx
      exact (hf i (List.mem_range.1 hi)).1
    · obtain ⟨b, off, spot⟩ := a
      have h0 := (hf 0 hp).2 0 _ rfl
      have hs : spot = none := by simpa [Addr.add] using World.cell?_spot h0
      subst hs
      refine ⟨b, off, rfl, fun i x hx => ?_⟩
      obtain ⟨hi, rfl⟩ : i < len ∧ f i = x := by
        rw [List.getElem?_map] at hx
        by_cases hi : i < len
        · rw [List.getElem?_range hi] at hx
          exact ⟨hi, by simpa using hx⟩
        · rw [List.getElem?_eq_none (by simpa using hi)] at hx
          cases hx
      have hc := (hf i hi).2
      simp only [Addr.add_lit] at hc
      exact ⟨by simpa using hc 0 _ rfl, hc 1 _ rfl, hc 2 _ rfl⟩
theorem sized_of {H : Type} {P : Program} {ts us : List TypeId} {ds gs : List (DataW H)} (h : (DataW.weightsEach P (ts ++ us) (ds ++ gs)).all (· ≤ reachBytes) = true) (j : Nat) (t : TypeId) (d : DataW H) (ht : ts[j]? = some t) (hd : ds[j]? = some d) : ∀ n ∈ d.weights P t, n ≤ reachBytes := fun n hn => by
  have h1 : (ts ++ us)[j]? = some t := by rw [List.getElem?_append_left (List.getElem?_eq_some_iff.1 ht).1]; exact ht
  have h2 : (ds ++ gs)[j]? = some d := by rw [List.getElem?_append_left (List.getElem?_eq_some_iff.1 hd).1]; exact hd
  simpa using List.all_eq_true.1 h n (DataW.weights_mem_each h1 h2 n hn)
#print axioms open_en
#print axioms open_mz
end Go.Proofs.YtajllkkbgpijiaaDoor
namespace Go.Proofs.YtajllkkbgpijiaaDoor
open Go.RowKit

/-- What is told of the first ones. -/
def Few (es : List Em) (k n : Nat) : Prop := k ≤ n ∧ ∀ (j : Nat) (e : Em), j < k → es[j]? = some e → e.ld ≤ n ∧ e.ll ≤ n ∧ e.lh ≤ n
theorem Few.step {es : List Em} {k n : Nat} {e : Em} (h : Few es k n) (he : es[k]? = some e) (m : Nat) (hm : n + 1 + e.ld + e.ll + e.lh ≤ m) : Few es (k + 1) m := ⟨by have := h.1; omega, fun j x hj hx => by
  by_cases hjk : j = k
  · subst hjk
    rw [he] at hx
    cases hx
    omega
  · have := h.2 j x (by omega) hx
    omega⟩

set_option linter.unusedSimpArgs false in
set_option maxHeartbeats 4000000 in
set_option maxRecDepth 100000 in
theorem size12 {w : World} {a : Option Addr} {len : Nat} {es : List Em} (h : IsEn w a len es) (cap : Nat) (hlm : len ≤ maxLen) :
    Calls Tryd.prog 4 #[.slice a len cap] w fun e w' => ∃ n : Nat, e = .returned (.int .i64 (n : Int)) ∧ n ≤ 700000000000000 ∧ (n ≤ 5000 → len ≤ 5000 ∧ ∀ e ∈ es, e.ld ≤ 5000 ∧ e.ll ≤ 5000 ∧ e.lh ≤ 5000) ∧ Below w.heap.size w w' := by
  have HH : Hid (IsEn w a len es) := h
  have hlm' : len ≤ 9223372036854775807 := hlm
  clear h
  go_enter Tryd.func4, Tryd.ntmps4
  go_wp2_with fail
  go_loopw [3, 4] (fun nv iv wr => ∃ k n : Nat, k ≤ len ∧ iv = .int .i64 (k : Int) ∧ nv = .int .i64 (n : Int) ∧ n ≤ 700000000000000 ∧ Hid (Few es k n ∧ Below w.heap.size w wr)) (fun _ iv _ => len - (intOf iv).toNat)
  case atStart => exact ⟨0, 0, Nat.zero_le _, rfl, rfl, by decide, (show _ ∧ _ from ⟨⟨Nat.le_refl _, fun j e hj => by omega⟩, Below.refl _ _⟩)⟩
  case round =>
    obtain ⟨k, n, hk, rfl, rfl, hn, HR⟩ := hrel
    have hsz := HH.out.size
    by_cases hkl : k < len
    · have gk : (k : Int) < (len : Int) := by omega
      have gk0 : (0 : Int) ≤ (k : Int) := by omega
      by_cases hn5 : n ≤ 5000
      · have gn : (n : Int) ≤ 5000 := by omega
        obtain ⟨b, off, rfl, hat⟩ := HH.out.at_ (by omega)
        obtain ⟨e, he⟩ : ∃ e, es[k]? = some e := ⟨_, List.getElem?_eq_getElem (by omega)⟩
        have hw := HH.out.ok e (List.mem_of_getElem? he)
        have o1 := hw.b1
        have o2 := hw.b2
        have o3 := hw.b3
        have o4 := hw.b4
        obtain ⟨_, _, m2, _, _, m5, m6, m7, _, _⟩ := hat k e he
        have c2 := (HR.out.2.cell (block_lt_of_cell m2)).trans m2
        have c5 := (HR.out.2.cell (block_lt_of_cell m5)).trans m5
        have c6 := (HR.out.2.cell (block_lt_of_cell m6)).trans m6
        have c7 := (HR.out.2.cell (block_lt_of_cell m7)).trans m7
        have FS : Hid (Few es (k + 1) (n + 1 + e.nm.size + e.ld + e.ll + e.lh)) := HR.out.1.step he _ (by omega)
        have BR : Hid (Below w.heap.size w wr) := HR.out.2
        clear hat hw m2 m5 m6 m7 he HR
        have a1 : IntKind.i64.wrap ((n : Int) + 1) = ((n + 1 : Nat) : Int) := by rw [IntKind.wrap_i64]; omega
        have a2 : IntKind.i64.wrap (((n + 1 : Nat) : Int) + (e.nm.size : Int)) = ((n + 1 + e.nm.size : Nat) : Int) := by rw [IntKind.wrap_i64]; omega
        have a3 : IntKind.i64.wrap (((n + 1 + e.nm.size : Nat) : Int) + (e.ld : Int)) = ((n + 1 + e.nm.size + e.ld : Nat) : Int) := by rw [IntKind.wrap_i64]; omega
        have a4 : IntKind.i64.wrap (((n + 1 + e.nm.size + e.ld : Nat) : Int) + (e.ll : Int)) = ((n + 1 + e.nm.size + e.ld + e.ll : Nat) : Int) := by rw [IntKind.wrap_i64]; omega
        have a5 : IntKind.i64.wrap (((n + 1 + e.nm.size + e.ld + e.ll : Nat) : Int) + (e.lh : Int)) = ((n + 1 + e.nm.size + e.ld + e.ll + e.lh : Nat) : Int) := by rw [IntKind.wrap_i64]; omega
        have a6 : IntKind.i64.wrap ((k : Int) + 1) = ((k + 1 : Nat) : Int) := by rw [IntKind.wrap_i64]; omega
        go_wp2_with fail
        go_quiet (fail)
        go_wp2_with fail
        exact ⟨⟨k + 1, n + 1 + e.nm.size + e.ld + e.ll + e.lh, by omega, by go_num, by go_num, by omega, (show _ ∧ _ from ⟨FS.out, ⟨BR.out.os, BR.out.tape, BR.out.output, BR.out.size, BR.out.block⟩⟩)⟩, by simp [intOf]; omega⟩
      · have gn : ¬ ((n : Int) ≤ 5000) := by omega
        go_wp2_with fail
        go_ret
        exact ⟨n, rfl, hn, fun h => absurd h hn5, HR.out.2⟩
    · have gk : ¬ ((k : Int) < (len : Int)) := by omega
      go_wp2_with fail
      go_ret
      refine ⟨n, rfl, hn, fun h5 => ⟨by have := HR.out.1.1; omega, fun e he => ?_⟩, HR.out.2⟩
      obtain ⟨j, hj, hq⟩ := List.getElem_of_mem he
      have := HR.out.1.2 j e (by omega) (by rw [List.getElem?_eq_getElem hj, hq])
      omega
#print axioms size12
end Go.Proofs.YtajllkkbgpijiaaDoor
namespace Go.Proofs.YtajllkkbgpijiaaDoor
open Go.RowKit

set_option linter.unusedSimpArgs false in
set_option maxHeartbeats 4000000 in
set_option maxRecDepth 100000 in
theorem get_at (p m : Nat) (cg : Int) (lst : Mp) (i s : Int) (nm : ByteArray) (t rt : Int) (d : Option Addr) (ld cd : Nat) (l : Option Addr) (ll cl : Nat) (h : Option Addr) (lh ch : Nat) (tg gr : Int) (v : Option Addr) (lv cv : Nat) (zv : List Int) (w : World) (hp : w.heap[p]? = some (.cells #[.map (some m), .int .i64 cg] 77 (0, 0))) (hm : IsM w m lst) (hl : lookP lst i s = some (.agg (itC i s nm t rt d ld cd l ll cl h lh ch tg gr v lv cv))) (rv : SlOk w v lv cv zv) (hlv : lv ≤ 16777216) :
    Calls Tryd.prog 14 #[.pointer (some ⟨p, 0, none⟩), plV i s] w fun e w' => (∃ a' cap', e = .returned (.tuple #[.slice a' lv cap', .bool true]) ∧ Told w w' a' lv cap' zv) ∧ Below w.heap.size w w' := by
  have HF : Hid (∀ W, Below w.heap.size w W → Calls Tryd.prog 34 #[.pointer (some ⟨p, 0, none⟩), plV i s] W fun e w' => e = .returned (.tuple #[.agg (itC i s nm t rt d ld cd l ll cl h lh ch tg gr v lv cv), .int .u32 0]) ∧ Below W.heap.size W w') := fun W hb => find_at p m cg lst i s nm t rt d ld cd l ll cl h lh ch tg gr v lv cv W (blk11 hb hp) (hm.next hb) hl
  have HC : Hid (∀ W, Below w.heap.size w W → Calls Tryd.prog 30 #[.slice v lv cv] W fun e w' => (∃ a' cap', e = .returned (.slice a' lv cap') ∧ Told W w' a' lv cap' zv) ∧ Below W.heap.size W w') := fun W hb => clone8_any v lv cv zv W (rv.row.next hb) hlv
  clear hp hm hl rv
  go_enter Tryd.func14, Tryd.ntmps14
  go_wp2_with fail
  refine (HF.out _ (by repeat (first | exact Below.refl _ _ | apply Below.drew | apply Below.al))).mono ?_
  rintro e w1 ⟨rfl, hb⟩
  have B1 : Hid (Below w.heap.size w w1) := Below.andThen (by repeat (first | exact Below.refl _ _ | apply Below.drew | apply Below.al)) hb
  clear hb
  go_wp2_with fail
  refine (HC.out _ (Below.al B1.out _)).mono ?_
  rintro e w3 ⟨⟨a', cap', rfl, ht⟩, hb⟩
  have T3 : Hid (Told (w1.alloc (.cells (itC i s nm t rt d ld cd l ll cl h lh ch tg gr v lv cv) 81)) w3 a' lv cap' zv) := ht
  have N3 : Hid (Below w.heap.size w w3) := Below.andThen (Below.al B1.out _) hb
  clear hb ht
  go_wp2_with fail
  go_ret2
  exact ⟨⟨a', cap', rfl, T3.out.keep11 (by have := B1.out.size; simp; omega) (fun _ _ _ => rfl)⟩, N3.out⟩

set_option linter.unusedSimpArgs false in
set_option maxHeartbeats 4000000 in
set_option maxRecDepth 100000 in
theorem entry12_any (sub t : Int) (a : Option Addr) (len cap : Nat) (zs : List Int) (w : World) (hr : Row w a len zs) (hl : len ≤ 1000) :
    Calls Tryd.prog 26 #[.int .u8 sub, .int .u8 t, .slice a len cap] w fun e w' => ∃ a' c', e = .returned (.agg (enC 24576 sub ⟨#[]⟩ t 7 a' len c' none 0 0 none 0 0 0 0)) ∧ SlOk w' a' len c' zs ∧ Below w.heap.size w w' := by
  have HR : Hid (∀ W, Below w.heap.size w W → Row W a len zs) := fun W hb => hr.next hb
  clear hr
  go_enter Tryd.func26, Tryd.ntmps26
  go_wp2_with (at_builtin; refine wpList_append_nil rfl _ _ rfl rfl a len cap zs rfl (HR.out _ (by repeat (first | exact Below.refl _ _ | apply Below.drew | apply Below.al))) (by omega) ?_)
  intro a' c' w1 h1 h2 h3 h4 h6
  have A4 : Hid (∀ b off, a' = some ⟨b, off, none⟩ → b = w.heap.size + 1) := fun b off e => by have := (h4 b off e).1; simpa using this
  clear h4
  have h5 := h6
  rw [← World.size_alloc] at h5
  have B1 : Hid (Below w.heap.size w w1) := Below.andThen (by repeat (first | exact Below.refl _ _ | apply Below.drew | apply Below.al)) h5
  have X1 : Hid (w1.heap[w.heap.size]? = some (.cells (enC 0 0 ⟨#[]⟩ 0 0 none 0 0 none 0 0 none 0 0 0 0) 42 (0, 0))) := blk11 h5 (at11 _ _ _ rfl)
  have S1 : Hid (SlOk w1 a' len c' zs) := ⟨h3, h1, h2⟩
  have ST := store_part 42 10 sizeE w1 w.heap.size 0 _ _ X1.out (enC 24576 sub ⟨#[]⟩ t 7 a' len c' none 0 0 none 0 0 0 0).toList rfl (by simp) (by simp [Value.oneCell'])
  clear h1 h2 h3 h5 h6
  go_wp2_with (refine wpList_store_by rfl 42 _ _ rfl ⟨w.heap.size, 0, none⟩ _ rfl rfl ST ?_)
  have K1 : Kp [w.heap.size] w1 (w1.setRow w.heap.size (enC 24576 sub ⟨#[]⟩ t 7 a' len c' none 0 0 none 0 0 0 0)) := (Kp.refl _ _).row _ _ (.inl (by simp))
  refine bodyPost_ret (results_cell_row (P := Tryd.prog) rfl _ _ w.heap.size 42 (enC 24576 sub ⟨#[]⟩ t 7 a' len c' none 0 0 none 0 0 0 0) (0, 0) _ rfl (setRow_heap w1 w.heap.size _ _ _ _ X1.out) Tryd.underlying42 rfl sizeE) rfl ⟨a', c', rfl, ⟨S1.out.row.kps K1 (fun _ b off e => by have := A4.out b off e; simp; omega), S1.out.le, S1.out.max⟩, below_setRow B1.out (Nat.le_refl _) _⟩
#print axioms get_at

/-- The example's three entries. -/
def exE12 (a1 : Option Addr) (c1 : Nat) (a2 : Option Addr) (c2 : Nat) (a3 : Option Addr) (c3 : Nat) : List Em := [⟨24576, 1, ⟨#[]⟩, 5, 7, a1, 1, c1, none, 0, 0, none, 0, 0, 0, 0, [3], [], []⟩, ⟨24576, 2, ⟨#[]⟩, 1, 7, a2, 1, c2, none, 0, 0, none, 0, 0, 0, 0, [1], [], []⟩, ⟨24576, 3, ⟨#[]⟩, 3, 7, a3, 2, c3, none, 0, 0, none, 0, 0, 0, 0, [254, 255], [], []⟩]
/-- Its three Maps. -/
def ms12 : List Mq := [⟨24576, 1, 8⟩, ⟨24576, 2, 1⟩, ⟨24576, 3, 16⟩]
theorem o12a : Oct [3] := fun n hn => by simp at hn; omega
theorem o12b : Oct [1] := fun n hn => by simp at hn; omega
theorem o12c : Oct [254, 255] := fun n hn => by simp at hn; omega

set_option linter.unusedSimpArgs false in
set_option maxHeartbeats 4000000 in
set_option maxRecDepth 100000 in
theorem three12_any (w : World) : Calls Tryd.prog 11 #[] w fun e w' => ∃ ge gm a1 c1 a2 c2 a3 c3, e = .returned (.tuple #[.slice (some ⟨ge, 0, none⟩) 3 3, .slice (some ⟨gm, 0, none⟩) 3 3]) ∧ SlOk w' a1 1 c1 [3] ∧ SlOk w' a2 1 c2 [1] ∧ SlOk w' a3 2 c3 [254, 255] ∧ (∀ k e, (exE12 a1 c1 a2 c2 a3 c3)[k]? = some e → EmAt w' ge k e) ∧ MsAt w' gm ms12 ∧ Below w.heap.size w w' := by
  go_enter Tryd.func11, Tryd.ntmps11
  go_wp2_with fail
  refine (entry12_any 1 5 _ 1 1 [3] _ (row_lit w _ _ [3] 1 rfl o12a rfl) (by decide)).mono ?_
  rintro e w1 ⟨a1, c1, rfl, s1, b1⟩
  have B1 : Hid (Below w.heap.size w w1) := Below.andThen (by repeat (first | exact Below.refl _ _ | apply Below.drew | apply Below.al)) b1
  have S1 : Hid (SlOk w1 a1 1 c1 [3]) := s1
  clear s1 b1
  go_wp2_with fail
  refine (entry12_any 2 1 _ 1 1 [1] _ (row_lit w1 _ _ [1] 1 rfl o12b rfl) (by decide)).mono ?_
  rintro e w2 ⟨a2, c2, rfl, s2, b2⟩
  have B2 : Hid (Below w.heap.size w w2) := Below.andThen (Below.al B1.out _) b2
  have S1' : Hid (SlOk w2 a1 1 c1 [3]) := (S1.out.next (by repeat (first | exact Below.refl _ _ | apply Below.drew | apply Below.al))).next b2
  have S2 : Hid (SlOk w2 a2 1 c2 [1]) := s2
  clear s2 b2 S1
  go_wp2_with fail
  refine (entry12_any 3 3 _ 2 2 [254, 255] _ (row_lit w2 _ _ [254, 255] 2 rfl o12c rfl) (by decide)).mono ?_
  rintro e w3 ⟨a3, c3, rfl, s3, b3⟩
  have B3 : Hid (Below w.heap.size w w3) := Below.andThen (Below.al B2.out _) b3
  have T1 : Hid (SlOk w3 a1 1 c1 [3]) := (S1'.out.next (by repeat (first | exact Below.refl _ _ | apply Below.drew | apply Below.al))).next b3
  have T2 : Hid (SlOk w3 a2 1 c2 [1]) := (S2.out.next (by repeat (first | exact Below.refl _ _ | apply Below.drew | apply Below.al))).next b3
  have T3 : Hid (SlOk w3 a3 2 c3 [254, 255]) := s3
  clear s3 b3 S1' S2
  go_wp2_with fail
  go_ret2
  refine ⟨w3.heap.size, w3.heap.size + 1, a1, c1, a2, c2, a3, c3, rfl, T1.out.next (by repeat (first | exact Below.refl _ _ | apply Below.drew | apply Below.al)), T2.out.next (by repeat (first | exact Below.refl _ _ | apply Below.drew | apply Below.al)), T3.out.next (by repeat (first | exact Below.refl _ _ | apply Below.drew | apply Below.al)), ?_, ?_, Below.al (Below.al B3.out _) _⟩
  · intro k e he
    rcases k with _ | _ | _ | k
    case succ.succ.succ => simp [exE12] at he
    all_goals
      simp only [exE12, List.getElem?_cons_zero, List.getElem?_cons_succ, Option.some.injEq] at he
      subst he
      refine ⟨?_, ?_, ?_, ?_, ?_, ?_, ?_, ?_, ?_, ?_⟩ <;> (rw [cell_of_row _ w3.heap.size _ _ _ _ (ext11 (at11 _ _ _ rfl))]; rfl)
  · intro k x hx
    rcases k with _ | _ | _ | k
    case succ.succ.succ => simp [ms12] at hx
    all_goals
      simp only [ms12, List.getElem?_cons_zero, List.getElem?_cons_succ, Option.some.injEq] at hx
      subst hx
      refine ⟨?_, ?_, ?_⟩ <;> (rw [cell_of_row _ (w3.heap.size + 1) _ _ _ _ (at11 _ _ _ (by simp))]; rfl)
#print axioms three12_any
end Go.Proofs.YtajllkkbgpijiaaDoor
namespace Go.Proofs.YtajllkkbgpijiaaDoor
open Go.RowKit

/-- Bytes that lie elsewhere. -/
def Fa8 (w : World) (S : List Nat) (a : Option Addr) (len cap : Nat) (zs : List Int) : Prop := SlOk w a len cap zs ∧ (0 < len → ∀ b off, a = some ⟨b, off, none⟩ → b ∉ S)
theorem Fa8.next {w w' : World} {S : List Nat} {a : Option Addr} {len cap : Nat} {zs : List Int} (h : Fa8 w S a len cap zs) (hb : Below w.heap.size w w') : Fa8 w' S a len cap zs := ⟨h.1.next hb, h.2⟩
theorem Fa8.kp {w w' : World} {S : List Nat} {a : Option Addr} {len cap : Nat} {zs : List Int} (h : Fa8 w S a len cap zs) (hb : Kp S w w') : Fa8 w' S a len cap zs := ⟨⟨h.1.row.kps hb h.2, h.1.le, h.1.max⟩, h.2⟩
/-- Where an entry's bytes lie. -/
structure Q12 where
  d : Option Addr
  cd : Nat
  l : Option Addr
  cl : Nat
  h : Option Addr
  ch : Nat
  v : Option Addr
  cv : Nat
/-- An entry's bytes. -/
structure EQ (w : World) (S : List Nat) (ln : Nat) (zd z : List Int) (q : Q12) : Prop where
  d : Fa8 w S q.d ln q.cd zd
  l : Fa8 w S q.l 0 q.cl []
  h : Fa8 w S q.h 0 q.ch []
  v : Fa8 w S q.v ln q.cv z
theorem EQ.next {w w' : World} {S : List Nat} {ln : Nat} {zd z : List Int} {q : Q12} (h : EQ w S ln zd z q) (hb : Below w.heap.size w w') : EQ w' S ln zd z q := ⟨h.d.next hb, h.l.next hb, h.h.next hb, h.v.next hb⟩
theorem EQ.kp {w w' : World} {S : List Nat} {ln : Nat} {zd z : List Int} {q : Q12} (h : EQ w S ln zd z q) (hb : Kp S w w') : EQ w' S ln zd z q := ⟨h.d.kp hb, h.l.kp hb, h.h.kp hb, h.v.kp hb⟩
abbrev ls12 (q1 q2 q3 : Q12) : Mp := [(24576, 1, .agg (itC 24576 1 ⟨#[]⟩ 5 7 q1.d 1 q1.cd q1.l 0 q1.cl q1.h 0 q1.ch 0 0 q1.v 1 q1.cv)), (24576, 2, .agg (itC 24576 2 ⟨#[]⟩ 1 7 q2.d 1 q2.cd q2.l 0 q2.cl q2.h 0 q2.ch 0 0 q2.v 1 q2.cv)), (24576, 3, .agg (itC 24576 3 ⟨#[]⟩ 3 7 q3.d 2 q3.cd q3.l 0 q3.cl q3.h 0 q3.ch 0 0 q3.v 2 q3.cv))]
structure T8 (w : World) (p m : Nat) (cg : Int) (z1 z2 z3 : List Int) (q1 q2 q3 : Q12) : Prop where
  h : w.heap[p]? = some (.cells #[.map (some m), .int .i64 cg] 77 (0, 0))
  mm : IsM w m (ls12 q1 q2 q3)
  e1 : EQ w [p, m] 1 [3] z1 q1
  e2 : EQ w [p, m] 1 [1] z2 q2
  e3 : EQ w [p, m] 2 [254, 255] z3 q3
  ne : p ≠ m
  tb : Ty.Tab64 w
  old : 1 < p ∧ 1 < m
abbrev T12 (w : World) (p m : Nat) (cg : Int) (z1 z2 z3 : List Int) : Prop := ∃ q1 q2 q3, T8 w p m cg z1 z2 z3 q1 q2 q3
theorem T12.next {w w' : World} {p m : Nat} {cg : Int} {z1 z2 z3 : List Int} (h : T12 w p m cg z1 z2 z3) (hb : Below w.heap.size w w') : T12 w' p m cg z1 z2 z3 := by
  obtain ⟨q1, q2, q3, h⟩ := h
  exact ⟨q1, q2, q3, blk11 hb h.h, h.mm.next hb, h.e1.next hb, h.e2.next hb, h.e3.next hb, h.ne, tab_next h.tb hb, h.old⟩
theorem T12.lt {w : World} {p m : Nat} {cg : Int} {z1 z2 z3 : List Int} (h : T12 w p m cg z1 z2 z3) : p < w.heap.size ∧ m < w.heap.size := by
  obtain ⟨q1, q2, q3, h⟩ := h
  exact ⟨lt_of_heap h.h, h.mm.lt⟩
theorem exNew12 (w : World) (ge : Nat) (a1 : Option Addr) (c1 : Nat) (a2 : Option Addr) (c2 : Nat) (a3 : Option Addr) (c3 : Nat) (s1 : SlOk w a1 1 c1 [3]) (s2 : SlOk w a2 1 c2 [1]) (s3 : SlOk w a3 2 c3 [254, 255]) (hat : ∀ k e, (exE12 a1 c1 a2 c2 a3 c3)[k]? = some e → EmAt w ge k e) (hT : Ty.Tab64 w) :
    Calls Tryd.prog 12 #[.slice (some ⟨ge, 0, none⟩) 3 3] w fun e w1 => ∃ p m, e = .returned (.tuple #[.pointer (some ⟨p, 0, none⟩), .int .i64 0]) ∧ Below w.heap.size w w1 ∧ w.heap.size ≤ p ∧ w.heap.size ≤ m ∧ T12 w1 p m 0 [3] [1] [254, 255] := by
  have hok : ∀ e ∈ exE12 a1 c1 a2 c2 a3 c3, EmOk w e := by
    have rn := slOk_nil w
    intro e he
    simp only [exE12, List.mem_cons, List.not_mem_nil, or_false] at he
    rcases he with rfl | rfl | rfl
    · exact ⟨s1, rn, rn, by dsimp only; decide, by dsimp only; decide, by dsimp only; decide, by dsimp only; decide, by dsimp only; decide, by dsimp only; decide, by dsimp only; decide, by dsimp only; decide +kernel, by dsimp only; decide +kernel, by dsimp only; decide +kernel⟩
    · exact ⟨s2, rn, rn, by dsimp only; decide, by dsimp only; decide, by dsimp only; decide, by dsimp only; decide, by dsimp only; decide, by dsimp only; decide, by dsimp only; decide, by dsimp only; decide +kernel, by dsimp only; decide +kernel, by dsimp only; decide +kernel⟩
    · exact ⟨s3, rn, rn, by dsimp only; decide, by dsimp only; decide, by dsimp only; decide, by dsimp only; decide, by dsimp only; decide, by dsimp only; decide, by dsimp only; decide, by dsimp only; decide +kernel, by dsimp only; decide +kernel, by dsimp only; decide +kernel⟩
  have hdis : ∀ (k : Nat) (e : Em), (exE12 a1 c1 a2 c2 a3 c3)[k]? = some e → ∀ e' ∈ (exE12 a1 c1 a2 c2 a3 c3).take k, ¬ (e.i = e'.i ∧ e.s = e'.s) := by
    intro k e he
    rcases k with _ | _ | _ | k
    case succ.succ.succ => simp [exE12] at he
    all_goals
      simp only [exE12, List.getElem?_cons_zero, List.getElem?_cons_succ, Option.some.injEq] at he
      subst he
      simp [exE12]
  refine (new_at ge 3 (exE12 a1 c1 a2 c2 a3 c3) w (by simp [exE12]) hok hat hdis hT).mono ?_
  rintro r w1 ⟨lst, rfl, hb, hd, hm, hB⟩
  obtain ⟨x1, k1, x2, k2, x3, k3, u1, n1, j1, g1, b1, b2, b3, b4⟩ := hB.2 0 _ (show (exE12 a1 c1 a2 c2 a3 c3)[0]? = some _ from rfl)
  obtain ⟨y1, l1, y2, l2, y3, l3, u2, n2, j2, g2, d1, d2, d3, d4⟩ := hB.2 1 _ (show (exE12 a1 c1 a2 c2 a3 c3)[1]? = some _ from rfl)
  obtain ⟨v1, m1, v2, m2, v3, m3, u3, n3, j3, g3, f1, f2, f3, f4⟩ := hB.2 2 _ (show (exE12 a1 c1 a2 c2 a3 c3)[2]? = some _ from rfl)
  dsimp only at g1 b1 b2 b3 b4 g2 d1 d2 d3 d4 g3 f1 f2 f3 f4
  rw [show firstL 5 [3] = [3] from by decide +kernel] at b4
  rw [show firstL 1 [1] = [1] from by decide +kernel] at d4
  rw [show firstL 3 [254, 255] = [254, 255] from by decide +kernel] at f4
  obtain rfl : n1 = 1 := b4.1.row.size.symm
  obtain rfl : n2 = 1 := d4.1.row.size.symm
  obtain rfl : n3 = 2 := f4.1.row.size.symm
  have hl : lst = ls12 ⟨x1, k1, x2, k2, x3, k3, u1, j1⟩ ⟨y1, l1, y2, l2, y3, l3, u2, j2⟩ ⟨v1, m1, v2, m2, v3, m3, u3, j3⟩ := by
    have h2 := hB.1
    rcases lst with _ | ⟨x, _ | ⟨y, _ | ⟨z, _ | ⟨u, t⟩⟩⟩⟩
    · simp at g1
    · simp at g2
    · simp at g3
    · simp only [List.getElem?_cons_zero, List.getElem?_cons_succ, Option.some.injEq] at g1 g2 g3
      rw [g1, g2, g3]
    · simp [exE12] at h2
  subst hl
  have old := hT.old
  have far : ∀ {a : Option Addr} {len cap : Nat} {zs : List Int}, Kept w1 (w.heap.size + 2) a len cap zs → Fa8 w1 [w.heap.size + 1, w.heap.size] a len cap zs := fun k => ⟨k.1, fun hl b off e => by
    have h1 := k.2 hl b off e
    simp
    omega⟩
  exact ⟨w.heap.size + 1, w.heap.size, rfl, hb, by omega, by omega, _, _, _, hd, hm, ⟨far b1, far b2, far b3, far b4⟩, ⟨far d1, far d2, far d3, far d4⟩, ⟨far f1, far f2, far f3, far f4⟩, by omega, hT.below hb hT.old, by omega, by omega⟩
theorem r12a (out : Bool) : (bits .and .u8 7 (rgt out) == 0) = false := by cases out <;> decide +kernel
theorem r12b : (bits .and .u8 7 4 != 0) = true := by decide +kernel
theorem r12c : (bits .and .u8 7 1 != 0) = true := by decide +kernel
theorem r12d : (bits .and .u8 7 2 != 0) = true := by decide +kernel
theorem mp12 {w : World} {p m : Nat} {cg : Int} {z1 z2 z3 : List Int} {q1 q2 q3 : Q12} (h : T8 w p m cg z1 z2 z3 q1 q2 q3) (out : Bool) : ∀ x ∈ ms12, MpOk w (ls12 q1 q2 q3) out x := by
  intro x hx
  simp only [ms12, List.mem_cons, List.not_mem_nil, or_false] at hx
  rcases hx with rfl | rfl | rfl
  · exact ⟨_, _, _, _, _, _, _, _, _, _, _, _, _, _, _, _, _, _, _, _, rfl, h.e1.d.1, h.e1.l.1, h.e1.h.1, by decide, by decide, by decide, by decide, by decide, r12b, by decide +kernel, r12a out⟩
  · exact ⟨_, _, _, _, _, _, _, _, _, _, _, _, _, _, _, _, _, _, _, _, rfl, h.e2.d.1, h.e2.l.1, h.e2.h.1, by decide, by decide, by decide, by decide, by decide, r12b, by decide +kernel, r12a out⟩
  · exact ⟨_, _, _, _, _, _, _, _, _, _, _, _, _, _, _, _, _, _, _, _, rfl, h.e3.d.1, h.e3.l.1, h.e3.h.1, by decide, by decide, by decide, by decide, by decide, r12b, by decide +kernel, r12a out⟩
/-- The values. -/
def val12 (z1 z2 z3 : List Int) (_ s : Int) : List Int := if s = 1 then z1 else if s = 2 then z2 else z3
theorem va12 {w : World} {p m : Nat} {cg : Int} {z1 z2 z3 : List Int} {q1 q2 q3 : Q12} (h : T8 w p m cg z1 z2 z3 q1 q2 q3) : ∀ x ∈ ms12, VaOk w (ls12 q1 q2 q3) (val12 z1 z2 z3) x := by
  intro x hx
  simp only [ms12, List.mem_cons, List.not_mem_nil, or_false] at hx
  rcases hx with rfl | rfl | rfl
  · exact ⟨_, _, _, _, _, _, _, _, _, _, _, _, _, _, _, _, _, rfl, h.e1.v.1, by decide, by decide, r12c⟩
  · exact ⟨_, _, _, _, _, _, _, _, _, _, _, _, _, _, _, _, _, rfl, h.e2.v.1, by decide, by decide, r12c⟩
  · exact ⟨_, _, _, _, _, _, _, _, _, _, _, _, _, _, _, _, _, rfl, h.e3.v.1, by decide, by decide, r12c⟩
theorem row_block {W : World} {g : Nat} {zs : List Int} (h : W.heap[g]? = some (.cells (zs.map (Value.int .u8)).toArray 5 (0, 0))) (ho : Oct zs) (hl : zs.length ≤ maxLen) : SlOk W (some ⟨g, 0, none⟩) zs.length zs.length zs :=
  ⟨⟨rfl, ho, fun _ => ⟨g, 0, rfl, fun i hi => by
    rw [Nat.zero_add, cell_of_row W _ _ _ _ _ h]
    simp [List.getD_eq_getElem?_getD, hi]⟩⟩, Nat.le_refl _, hl⟩
theorem T12.get3 {w : World} {p m : Nat} {cg : Int} {z1 z2 z3 : List Int} (h : T12 w p m cg z1 z2 z3) : Calls Tryd.prog 14 #[.pointer (some ⟨p, 0, none⟩), plV 24576 3] w fun e w' => (∃ a' cap', e = .returned (.tuple #[.slice a' 2 cap', .bool true]) ∧ Told w w' a' 2 cap' z3) ∧ Below w.heap.size w w' := by
  obtain ⟨q1, q2, q3, h⟩ := h
  exact get_at p m cg _ 24576 3 ⟨#[]⟩ 3 7 q3.d 2 q3.cd q3.l 0 q3.cl q3.h 0 q3.ch 0 0 q3.v 2 q3.cv z3 w h.h h.mm rfl h.e3.v.1 (by decide)
theorem c12_1 : Ty.chkN 5 [5] [] [] = 0 := by decide +kernel
theorem T12.may1 {w : World} {p m : Nat} {cg : Int} {z1 z2 z3 : List Int} (h : T12 w p m cg z1 z2 z3) (b : Option Addr) (rb : SlOk w b 1 1 [5]) : Calls Tryd.prog 51 #[.pointer (some ⟨p, 0, none⟩), plV 24576 1, .slice b 1 1] w fun e w' => e = .returned (.tuple #[.int .u8 0, .int .u32 0]) ∧ Below w.heap.size w w' := by
  obtain ⟨q1, q2, q3, h⟩ := h
  exact may_at p m cg _ 24576 1 ⟨#[]⟩ 5 7 q1.d 1 q1.cd q1.l 0 q1.cl q1.h 0 q1.ch 0 0 q1.v 1 q1.cv b 1 1 [5] [] [] w h.h h.mm rfl rb h.e1.l.1 h.e1.h.1 h.tb r12d c12_1
theorem T12.put1 {w : World} {p m : Nat} {cg : Int} {z1 z2 z3 : List Int} (h : T12 w p m cg z1 z2 z3) (h0 : 0 ≤ cg) (h1 : cg < 1000) (b : Option Addr) (rb : SlOk w b 1 1 [5]) : Calls Tryd.prog 33 #[.pointer (some ⟨p, 0, none⟩), plV 24576 1, .slice b 1 1] w fun e w' => e = .returned (.int .u32 0) ∧ T12 w' p m (cg + 1) [5] z2 z3 ∧ Kp [p, m] w w' := by
  obtain ⟨q1, q2, q3, h⟩ := h
  refine (write_at p m cg _ 24576 1 ⟨#[]⟩ 5 7 q1.d 1 q1.cd q1.l 0 q1.cl q1.h 0 q1.ch 0 0 q1.v 1 q1.cv b 1 1 [5] [] [] w h.h h.mm rfl rb h.e1.l.1 h.e1.h.1 h.tb r12d c12_1 (by decide) h0 (by omega) h.ne).mono ?_
  rintro e w' ⟨rfl, a', c', k, hh, hm, ht⟩
  have lp := lt_of_heap h.h
  have lm := h.mm.lt
  have hv : Fa8 w' [p, m] a' 1 c' [5] := ⟨⟨ht.row, ht.le, ht.max⟩, fun hl b off e => by
    obtain ⟨g, hg, hge, _⟩ := ht.own hl
    rw [e] at hg
    cases hg
    simp
    omega⟩
  have tb : Ty.Tab64 w' := fun j hj => by
    have hc := h.tb j hj
    have old := h.old
    rw [World.cell?_of_block (w := w) (k.block _ h.tb.old (by simp; omega))]
    exact hc
  have e1 := h.e1.kp k
  have e2 := h.e2.kp k
  have e3 := h.e3.kp k
  exact ⟨rfl, ⟨⟨q1.d, q1.cd, q1.l, q1.cl, q1.h, q1.ch, a', c'⟩, q2, q3, hh, hm, ⟨e1.d, e1.l, e1.h, hv⟩, e2, e3, h.ne, tb, h.old⟩, k⟩
theorem c12_2 : Ty.chkN 1 [0] [] [] = 0 := by decide +kernel
theorem T12.may2 {w : World} {p m : Nat} {cg : Int} {z1 z2 z3 : List Int} (h : T12 w p m cg z1 z2 z3) (b : Option Addr) (rb : SlOk w b 1 1 [0]) : Calls Tryd.prog 51 #[.pointer (some ⟨p, 0, none⟩), plV 24576 2, .slice b 1 1] w fun e w' => e = .returned (.tuple #[.int .u8 0, .int .u32 0]) ∧ Below w.heap.size w w' := by
  obtain ⟨q1, q2, q3, h⟩ := h
  exact may_at p m cg _ 24576 2 ⟨#[]⟩ 1 7 q2.d 1 q2.cd q2.l 0 q2.cl q2.h 0 q2.ch 0 0 q2.v 1 q2.cv b 1 1 [0] [] [] w h.h h.mm rfl rb h.e2.l.1 h.e2.h.1 h.tb r12d c12_2
theorem T12.put2 {w : World} {p m : Nat} {cg : Int} {z1 z2 z3 : List Int} (h : T12 w p m cg z1 z2 z3) (h0 : 0 ≤ cg) (h1 : cg < 1000) (b : Option Addr) (rb : SlOk w b 1 1 [0]) : Calls Tryd.prog 33 #[.pointer (some ⟨p, 0, none⟩), plV 24576 2, .slice b 1 1] w fun e w' => e = .returned (.int .u32 0) ∧ T12 w' p m (cg + 1) z1 [0] z3 ∧ Kp [p, m] w w' := by
  obtain ⟨q1, q2, q3, h⟩ := h
  refine (write_at p m cg _ 24576 2 ⟨#[]⟩ 1 7 q2.d 1 q2.cd q2.l 0 q2.cl q2.h 0 q2.ch 0 0 q2.v 1 q2.cv b 1 1 [0] [] [] w h.h h.mm rfl rb h.e2.l.1 h.e2.h.1 h.tb r12d c12_2 (by decide) h0 (by omega) h.ne).mono ?_
  rintro e w' ⟨rfl, a', c', k, hh, hm, ht⟩
  have lp := lt_of_heap h.h
  have lm := h.mm.lt
  have hv : Fa8 w' [p, m] a' 1 c' [0] := ⟨⟨ht.row, ht.le, ht.max⟩, fun hl b off e => by
    obtain ⟨g, hg, hge, _⟩ := ht.own hl
    rw [e] at hg
    cases hg
    simp
    omega⟩
  have tb : Ty.Tab64 w' := fun j hj => by
    have hc := h.tb j hj
    have old := h.old
    rw [World.cell?_of_block (w := w) (k.block _ h.tb.old (by simp; omega))]
    exact hc
  have e1 := h.e1.kp k
  have e2 := h.e2.kp k
  have e3 := h.e3.kp k
  exact ⟨rfl, ⟨q1, ⟨q2.d, q2.cd, q2.l, q2.cl, q2.h, q2.ch, a', c'⟩, q3, hh, hm, e1, ⟨e2.d, e2.l, e2.h, hv⟩, e3, h.ne, tb, h.old⟩, k⟩
theorem c12_3 : Ty.chkN 3 [1, 0] [] [] = 0 := by decide +kernel
theorem T12.may3 {w : World} {p m : Nat} {cg : Int} {z1 z2 z3 : List Int} (h : T12 w p m cg z1 z2 z3) (b : Option Addr) (rb : SlOk w b 2 2 [1, 0]) : Calls Tryd.prog 51 #[.pointer (some ⟨p, 0, none⟩), plV 24576 3, .slice b 2 2] w fun e w' => e = .returned (.tuple #[.int .u8 0, .int .u32 0]) ∧ Below w.heap.size w w' := by
  obtain ⟨q1, q2, q3, h⟩ := h
  exact may_at p m cg _ 24576 3 ⟨#[]⟩ 3 7 q3.d 2 q3.cd q3.l 0 q3.cl q3.h 0 q3.ch 0 0 q3.v 2 q3.cv b 2 2 [1, 0] [] [] w h.h h.mm rfl rb h.e3.l.1 h.e3.h.1 h.tb r12d c12_3
theorem T12.put3 {w : World} {p m : Nat} {cg : Int} {z1 z2 z3 : List Int} (h : T12 w p m cg z1 z2 z3) (h0 : 0 ≤ cg) (h1 : cg < 1000) (b : Option Addr) (rb : SlOk w b 2 2 [1, 0]) : Calls Tryd.prog 33 #[.pointer (some ⟨p, 0, none⟩), plV 24576 3, .slice b 2 2] w fun e w' => e = .returned (.int .u32 0) ∧ T12 w' p m (cg + 1) z1 z2 [1, 0] ∧ Kp [p, m] w w' := by
  obtain ⟨q1, q2, q3, h⟩ := h
  refine (write_at p m cg _ 24576 3 ⟨#[]⟩ 3 7 q3.d 2 q3.cd q3.l 0 q3.cl q3.h 0 q3.ch 0 0 q3.v 2 q3.cv b 2 2 [1, 0] [] [] w h.h h.mm rfl rb h.e3.l.1 h.e3.h.1 h.tb r12d c12_3 (by decide) h0 (by omega) h.ne).mono ?_
  rintro e w' ⟨rfl, a', c', k, hh, hm, ht⟩
  have lp := lt_of_heap h.h
  have lm := h.mm.lt
  have hv : Fa8 w' [p, m] a' 2 c' [1, 0] := ⟨⟨ht.row, ht.le, ht.max⟩, fun hl b off e => by
    obtain ⟨g, hg, hge, _⟩ := ht.own hl
    rw [e] at hg
    cases hg
    simp
    omega⟩
  have tb : Ty.Tab64 w' := fun j hj => by
    have hc := h.tb j hj
    have old := h.old
    rw [World.cell?_of_block (w := w) (k.block _ h.tb.old (by simp; omega))]
    exact hc
  have e1 := h.e1.kp k
  have e2 := h.e2.kp k
  have e3 := h.e3.kp k
  exact ⟨rfl, ⟨q1, q2, ⟨q3.d, q3.cd, q3.l, q3.cl, q3.h, q3.ch, a', c'⟩, hh, hm, e1, e2, ⟨e3.d, e3.l, e3.h, hv⟩, h.ne, tb, h.old⟩, k⟩
#print axioms T12.put3
#print axioms exNew12
end Go.Proofs.YtajllkkbgpijiaaDoor
namespace Go.Proofs.YtajllkkbgpijiaaDoor
open Go.RowKit

theorem t12_1 : tkB [5, 2, 0, 0] (sumB ms12 0) 8 = [5] := by decide +kernel
theorem t12_2 : tkB [5, 2, 0, 0] (sumB ms12 1) 1 = [0] := by decide +kernel
theorem t12_3 : tkB [5, 2, 0, 0] (sumB ms12 2) 16 = [1, 0] := by decide +kernel
theorem p12 : pk ms12 (val12 [3] [1] [254, 255]) 4 3 = [3, 253, 255, 1] := by decide +kernel
theorem s12 : sumB ms12 3 = 25 := by decide +kernel
theorem es12 : strOfNums [3, 253, 255, 1] = ⟨#[3, 253, 255, 1]⟩ := by kernel_rfl
theorem et12 : strOfNums [1, 0] = ⟨#[1, 0]⟩ := by kernel_rfl
theorem o12_1 : Oct [5] := fun n hn => by simp at hn; omega
theorem o12_2 : Oct [0] := fun n hn => by simp at hn; omega
theorem o12_3 : Oct [1, 0] := fun n hn => by simp at hn; omega
theorem o12_4 : Oct [5, 2, 0, 0] := fun n hn => by simp at hn; omega
theorem o12_5 : Oct [3, 253, 255, 1] := fun n hn => by simp at hn; omega
/-- What stands behind so many writes. -/
def AT12 (w : World) (p m k : Nat) : Prop := (k = 0 ∧ T12 w p m 0 [3] [1] [254, 255]) ∨ (k = 1 ∧ T12 w p m 1 [5] [1] [254, 255]) ∨ (k = 2 ∧ T12 w p m 2 [5] [0] [254, 255]) ∨ (k = 3 ∧ T12 w p m 3 [5] [0] [1, 0])

set_option linter.unusedSimpArgs false in
set_option maxHeartbeats 4000000 in
set_option maxRecDepth 100000 in
theorem write12g (zs : List Int) (len : Nat) (hl4 : 4 ≤ len) (hl5 : len ≤ 1000) (t12_1 : tkB zs (sumB ms12 0) 8 = [5]) (t12_2 : tkB zs (sumB ms12 1) 1 = [0]) (t12_3 : tkB zs (sumB ms12 2) 16 = [1, 0]) (w : World) (p m gm : Nat) (a : Option Addr) (cap : Nat) (h : T12 w p m 0 [3] [1] [254, 255]) (hM : MsAt w gm ms12) (hr : Row w a len zs) :
    Calls Tryd.prog 13 #[.pointer (some ⟨p, 0, none⟩), .slice (some ⟨gm, 0, none⟩) 3 3, .slice a len cap] w fun e w' => e = .returned (.int .u32 0) ∧ T12 w' p m 3 [5] [0] [1, 0] ∧ Kp [p, m] w w' := by
  have HU : Hid (Calls Tryd.prog 32 #[.pointer (some ⟨p, 0, none⟩), .slice (some ⟨gm, 0, none⟩) 3 3, .slice a len cap] w fun e w' => ∃ v us, e = .returned (.tuple #[v, .int .u32 0]) ∧ IsV w' w.heap.size v us ∧ us.length = 3 ∧ (∀ j x, j < 3 → ms12[j]? = some x → ∃ g, us[j]? = some ⟨x.i, x.s, g, (x.b + 7) / 8⟩ ∧ w.heap.size ≤ g ∧ w'.heap[g]? = some (.cells ((tkB zs (sumB ms12 j) x.b).map (Value.int .u8)).toArray 5 (0, 0))) ∧ Below w.heap.size w w') := by
    obtain ⟨q1, q2, q3, h8⟩ := h
    refine unpack_ok p m 0 _ gm 3 3 ms12 a len cap zs w h8.h h8.mm rfl (by decide) hM (mp12 h8 false) (by rw [s12]; decide) hr (by rw [s12]; omega) hl5 ?_
    intro W hb k x g hx hg
    have hW : T12 W p m 0 [3] [1] [254, 255] := T12.next ⟨q1, q2, q3, h8⟩ hb
    rcases k with _ | _ | _ | k
    case succ.succ.succ => simp [ms12] at hx
    · simp only [ms12, List.getElem?_cons_zero, Option.some.injEq] at hx
      subst hx
      dsimp only at hg
      rw [t12_1] at hg
      exact (hW.may1 _ (row_block hg o12_1 (by decide))).mono fun e w' hh => ⟨0, hh.1, hh.2⟩
    · simp only [ms12, List.getElem?_cons_zero, List.getElem?_cons_succ, Option.some.injEq] at hx
      subst hx
      dsimp only at hg
      rw [t12_2] at hg
      exact (hW.may2 _ (row_block hg o12_2 (by decide))).mono fun e w' hh => ⟨0, hh.1, hh.2⟩
    · simp only [ms12, List.getElem?_cons_zero, List.getElem?_cons_succ, Option.some.injEq] at hx
      subst hx
      dsimp only at hg
      rw [t12_3] at hg
      exact (hW.may3 _ (row_block hg o12_3 (by decide))).mono fun e w' hh => ⟨0, hh.1, hh.2⟩
  have HT : Hid (T12 w p m 0 [3] [1] [254, 255]) := h
  have HT1 : Hid (tkB zs (sumB ms12 0) 8 = [5]) := t12_1
  have HT2 : Hid (tkB zs (sumB ms12 1) 1 = [0]) := t12_2
  have HT3 : Hid (tkB zs (sumB ms12 2) 16 = [1, 0]) := t12_3
  clear h hM hr t12_1 t12_2 t12_3
  go_enter Tryd.func13, Tryd.ntmps13
  go_wp2_with fail
  refine HU.out.mono ?_
  rintro e w1 ⟨v, us, rfl, hv, hu, hj, hb⟩
  have D1 := HT.out
  have sv : ∃ gv capv, v = .slice (some ⟨gv, 0, none⟩) 3 capv := by
    rcases hv.form with ⟨_, h2⟩ | ⟨g, cp, _, hv2, _⟩
    · rw [h2] at hu; simp at hu
    · rw [hu] at hv2; exact ⟨g, cp, hv2⟩
  obtain ⟨gv, capv, rfl⟩ := sv
  have VV : Hid (IsV w1 w.heap.size (.slice (some ⟨gv, 0, none⟩) 3 capv) us) := hv
  have UL : Hid (us.length = 3) := hu
  have JJ : Hid (∀ j x, j < 3 → ms12[j]? = some x → ∃ g, us[j]? = some ⟨x.i, x.s, g, (x.b + 7) / 8⟩ ∧ w.heap.size ≤ g ∧ w1.heap[g]? = some (.cells ((tkB zs (sumB ms12 j) x.b).map (Value.int .u8)).toArray 5 (0, 0))) := hj
  have T1 : Hid (T12 w1 p m 0 [3] [1] [254, 255]) := HT.out.next hb
  have B1 : Hid (Below w.heap.size w w1) := hb
  have DL : Hid (p < w.heap.size ∧ m < w.heap.size) := D1.lt
  clear hv hu hj hb HU D1
  go_wp2_with fail
  go_loopw [23] (fun iv wr => ∃ k : Nat, k ≤ 3 ∧ iv = .int .i64 (k : Int) ∧ Hid (AT12 wr p m k ∧ Kp [p, m] w1 wr)) (fun iv _ => 3 - (intOf iv).toNat)
  case atStart => exact ⟨0, by decide, rfl, .inl ⟨rfl, T1.out⟩, Kp.refl _ _⟩
  case round =>
    obtain ⟨k, hk, rfl, HR⟩ := hrel
    have HK : Hid (Kp [p, m] w1 wr) := HR.out.2
    rcases HR.out.1 with ⟨rfl, D0⟩ | ⟨rfl, D0⟩ | ⟨rfl, D0⟩ | ⟨rfl, D0⟩
    · obtain ⟨gx, hx1, hx2, hx3⟩ := JJ.out 0 ⟨24576, 1, 8⟩ (by decide) rfl
      dsimp only at hx1 hx3
      rw [HT1.out] at hx3
      have GX : Hid (wr.heap[gx]? = some (.cells (([5] : List Int).map (Value.int .u8)).toArray 5 (0, 0))) := HK.out.at (by have := DL.out; simp; omega) hx3
      have LD := (show IsV wr w.heap.size (.slice (some ⟨gv, 0, none⟩) us.length capv) us from by rw [UL.out]; exact VV.out.same fun kk hkk => HK.out.block kk (VV.out.lt kk hkk).2 (by have := (VV.out.lt kk hkk).1; have := DL.out; simp; omega)).load 0 _ hx1
      have HD : Hid (T12 wr p m 0 [3] [1] [254, 255]) := D0
      clear HR D0 hx1 hx2 hx3
      try dsimp only at LD
      go_wp2_with (refine wpList_load_by rfl 90 (.tmp 25) rfl _ _ rfl LD ?_)
      refine ((HD.out.next (by repeat (first | exact Below.refl _ _ | apply Below.drew | apply Below.al))).put1 (by decide) (by decide) _ (row_block (ext11 GX.out) o12_1 (by decide))).mono ?_
      rintro e w2 ⟨rfl, hd, hk2⟩
      have F : Hid (AT12 w2 p m 1 ∧ Kp [p, m] w1 w2) := ⟨.inr (.inl ⟨rfl, hd⟩), (HK.out.al _).trans hk2⟩
      clear hd hk2 LD
      go_wp2_with fail
      exact ⟨⟨1, by decide, rfl, F.out⟩, by simp [intOf]⟩
    · obtain ⟨gx, hx1, hx2, hx3⟩ := JJ.out 1 ⟨24576, 2, 1⟩ (by decide) rfl
      dsimp only at hx1 hx3
      rw [HT2.out] at hx3
      have GX : Hid (wr.heap[gx]? = some (.cells (([0] : List Int).map (Value.int .u8)).toArray 5 (0, 0))) := HK.out.at (by have := DL.out; simp; omega) hx3
      have LD := (show IsV wr w.heap.size (.slice (some ⟨gv, 0, none⟩) us.length capv) us from by rw [UL.out]; exact VV.out.same fun kk hkk => HK.out.block kk (VV.out.lt kk hkk).2 (by have := (VV.out.lt kk hkk).1; have := DL.out; simp; omega)).load 1 _ hx1
      have HD : Hid (T12 wr p m 1 [5] [1] [254, 255]) := D0
      clear HR D0 hx1 hx2 hx3
      try dsimp only at LD
      go_wp2_with (refine wpList_load_by rfl 90 (.tmp 25) rfl _ _ rfl LD ?_)
      refine ((HD.out.next (by repeat (first | exact Below.refl _ _ | apply Below.drew | apply Below.al))).put2 (by decide) (by decide) _ (row_block (ext11 GX.out) o12_2 (by decide))).mono ?_
      rintro e w2 ⟨rfl, hd, hk2⟩
      have F : Hid (AT12 w2 p m 2 ∧ Kp [p, m] w1 w2) := ⟨.inr (.inr (.inl ⟨rfl, hd⟩)), (HK.out.al _).trans hk2⟩
      clear hd hk2 LD
      go_wp2_with fail
      exact ⟨⟨2, by decide, rfl, F.out⟩, by simp [intOf]⟩
    · obtain ⟨gx, hx1, hx2, hx3⟩ := JJ.out 2 ⟨24576, 3, 16⟩ (by decide) rfl
      dsimp only at hx1 hx3
      rw [HT3.out] at hx3
      have GX : Hid (wr.heap[gx]? = some (.cells (([1, 0] : List Int).map (Value.int .u8)).toArray 5 (0, 0))) := HK.out.at (by have := DL.out; simp; omega) hx3
      have LD := (show IsV wr w.heap.size (.slice (some ⟨gv, 0, none⟩) us.length capv) us from by rw [UL.out]; exact VV.out.same fun kk hkk => HK.out.block kk (VV.out.lt kk hkk).2 (by have := (VV.out.lt kk hkk).1; have := DL.out; simp; omega)).load 2 _ hx1
      have HD : Hid (T12 wr p m 2 [5] [0] [254, 255]) := D0
      clear HR D0 hx1 hx2 hx3
      try dsimp only at LD
      go_wp2_with (refine wpList_load_by rfl 90 (.tmp 25) rfl _ _ rfl LD ?_)
      refine ((HD.out.next (by repeat (first | exact Below.refl _ _ | apply Below.drew | apply Below.al))).put3 (by decide) (by decide) _ (row_block (ext11 GX.out) o12_3 (by decide))).mono ?_
      rintro e w2 ⟨rfl, hd, hk2⟩
      have F : Hid (AT12 w2 p m 3 ∧ Kp [p, m] w1 w2) := ⟨.inr (.inr (.inr ⟨rfl, hd⟩)), (HK.out.al _).trans hk2⟩
      clear hd hk2 LD
      go_wp2_with fail
      exact ⟨⟨3, by decide, rfl, F.out⟩, by simp [intOf]⟩
    · have R : Hid (T12 wr p m 3 [5] [0] [1, 0] ∧ Kp [p, m] w wr) := ⟨D0, (Kp.of B1.out).trans HK.out⟩
      clear HR D0
      go_wp2_with fail
      go_ret
      exact ⟨rfl, R.out⟩
theorem write12 (w : World) (p m gm : Nat) (a : Option Addr) (cap : Nat) (h : T12 w p m 0 [3] [1] [254, 255]) (hM : MsAt w gm ms12) (hr : Row w a 4 [5, 2, 0, 0]) :
    Calls Tryd.prog 13 #[.pointer (some ⟨p, 0, none⟩), .slice (some ⟨gm, 0, none⟩) 3 3, .slice a 4 cap] w fun e w' => e = .returned (.int .u32 0) ∧ T12 w' p m 3 [5] [0] [1, 0] ∧ Kp [p, m] w w' :=
  write12g [5, 2, 0, 0] 4 (by decide) (by decide) t12_1 t12_2 t12_3 w p m gm a cap h hM hr
#print axioms write12

set_option linter.unusedSimpArgs false in
set_option maxHeartbeats 4000000 in
set_option maxRecDepth 100000 in
theorem works12 (w : World) (hT : Ty.Tab64 w) : Calls Tryd.prog 5 #[] w fun e w' => e = .returned (.bool true) ∧ Below w.heap.size w w' := by
  have HT : Hid (Ty.Tab64 w) := hT
  clear hT
  go_enter Tryd.func5, Tryd.ntmps5
  go_wp2_with fail
  refine (three12_any w).mono ?_
  rintro e w1 ⟨ge, gm, a1, c1, a2, c2, a3, c3, rfl, s1, s2, s3, ha, hm, hb⟩
  have B1 : Hid (Below w.heap.size w w1) := hb
  have M1 : Hid (MsAt w1 gm ms12) := hm
  have NW := exNew12 w1 ge a1 c1 a2 c2 a3 c3 s1 s2 s3 ha (tab_next HT.out hb)
  clear s1 s2 s3 ha hm hb HT
  go_wp2_with fail
  refine NW.mono ?_
  rintro e w2 ⟨p, m, rfl, hb, hp, hmm, ht⟩
  have B2 : Hid (Below w.heap.size w w2) := Below.andThen B1.out hb
  have M2 : Hid (MsAt w2 gm ms12) := M1.out.next hb
  have T2 : Hid (T12 w2 p m 0 [3] [1] [254, 255]) := ht
  have P2 : Hid (w.heap.size ≤ p ∧ w.heap.size ≤ m) := ⟨by have := B1.out.size; omega, by have := B1.out.size; omega⟩
  have GM : Hid (gm ≠ p ∧ gm ≠ m) := by
    obtain ⟨q0, _, _⟩ := M1.out 0 _ rfl
    have := block_lt_of_cell q0
    dsimp only at this
    exact ⟨by omega, by omega⟩
  have PK : Calls Tryd.prog 7 #[.pointer (some ⟨p, 0, none⟩), .slice (some ⟨gm, 0, none⟩) 3 3] w2 fun e w' => ∃ g, e = .returned (.tuple #[.slice (some ⟨g, 0, none⟩) 4 4, .int .u32 0]) ∧ w2.heap.size ≤ g ∧ w'.heap[g]? = some (.cells (([3, 253, 255, 1] : List Int).map (Value.int .u8)).toArray 5 (0, 0)) ∧ Below w2.heap.size w2 w' := by
    obtain ⟨q1, q2, q3, h8⟩ := ht
    have := pack_ok p m 0 _ gm 3 3 ms12 (val12 [3] [1] [254, 255]) w2 h8.h h8.mm rfl (by decide) M2.out (mp12 h8 true) (va12 h8) (by rw [s12]; decide)
    rw [s12, show (25 + 7) / 8 = 4 from rfl, p12] at this
    exact this
  clear hb hp hmm ht NW M1
  go_wp2_with fail
  refine PK.mono ?_
  rintro e w3 ⟨g, rfl, hg, hg3, hb⟩
  have B3 : Hid (Below w.heap.size w w3) := Below.andThen B2.out hb
  have M3 : Hid (MsAt w3 gm ms12) := M2.out.next hb
  have T3 : Hid (T12 w3 p m 0 [3] [1] [254, 255]) := T2.out.next hb
  have st : (convert 30 9 (.slice (some ⟨g, 0, none⟩) 4 4)).run Tryd.prog w3 = .ok (.string ⟨#[3, 253, 255, 1]⟩) w3 := by
    have := (row_block hg3 o12_5 (by decide)).row.str 4
    rw [es12] at this
    exact this
  clear hb hg hg3 PK M2 T2
  go_wp2_with fail
  refine (write12 _ p m gm _ 4 (T3.out.next (by repeat (first | exact Below.refl _ _ | apply Below.drew | apply Below.al))) (M3.out.next (by repeat (first | exact Below.refl _ _ | apply Below.drew | apply Below.al))) (row_lit w3 _ _ [5, 2, 0, 0] 4 rfl o12_4 rfl)).mono ?_
  rintro e w4 ⟨rfl, t4, k4⟩
  have P3 := P2.out
  have B4 : Hid (Below w.heap.size w w4) := Kp.below (Below.al B3.out _) k4 (by have := B3.out.size; simp; omega) (by simp; omega)
  have T4 : Hid (T12 w4 p m 3 [5] [0] [1, 0]) := t4
  clear t4 k4 P3 st
  go_wp2_with fail
  refine T4.out.get3.mono ?_
  rintro e w5 ⟨⟨a, c, rfl, h5⟩, hb⟩
  have B5 : Hid (Below w.heap.size w w5) := Below.andThen B4.out hb
  have su : (convert 30 9 (.slice a 2 c)).run Tryd.prog w5 = .ok (.string ⟨#[1, 0]⟩) w5 := by
    have := h5.row.str c
    rw [et12] at this
    exact this
  clear hb h5
  go_wp2_with fail
  go_ret
  exact ⟨rfl, B5.out⟩
#print axioms works12
end Go.Proofs.YtajllkkbgpijiaaDoor
namespace Go.Proofs.YtajllkkbgpijiaaDoor
open Go.RowKit

/-- The value of a Map that may be sent. -/
theorem get_va {w : World} {lst : Mp} {val : Int → Int → List Int} (ho : ItOk w lst val) {x : Mz} (hcf : cfD lst true x = 0) (p m : Nat) (cg : Int) (hp : w.heap[p]? = some (.cells #[.map (some m), .int .i64 cg] 77 (0, 0))) (hm : IsM w m lst) :
    Calls Tryd.prog 14 #[.pointer (some ⟨p, 0, none⟩), plV x.i x.s] w fun e w' => (∃ a' cap', e = .returned (.tuple #[.slice a' ((x.b.toNat + 7) / 8) cap', .bool true]) ∧ Told w w' a' ((x.b.toNat + 7) / 8) cap' (val x.i x.s)) ∧ Below w.heap.size w w' := by
  unfold cfD at hcf
  split at hcf
  · exact absurd hcf (by decide)
  · split at hcf
    · exact absurd hcf (miss_ne _ _)
    · rename_i u hl
      obtain ⟨nm, t, rt, d, ld, cd, l, ll, cl, h, lh, ch, tg, gr, v, lv, cv, zd, zl, zh, rfl, r1, r2, r3, r4, g1, g2, g3, g4, g5⟩ := ho _ _ _ hl
      split at hcf
      · rename_i hq
        simp only [Bool.and_eq_true] at hq
        obtain ⟨⟨_, h1⟩, _⟩ := hq
        have h1 : hasB t x.b = true := h1
        have hs := Ty.Pl.size_bd t
        have h3 : 0 < Ty.Pl.sizeN t ∧ (x.b = 8 * Ty.Pl.sizeN t ∨ t = 1 ∧ x.b = 1) := by
          simp only [hasB, Bool.and_eq_true, Bool.or_eq_true, decide_eq_true_eq, beq_iff_eq] at h1
          exact h1
        have h4 := g5 h3.1
        have h6 : t = 1 → Ty.Pl.sizeN t = 1 := fun e => by subst e; rfl
        have e : lv = (x.b.toNat + 7) / 8 := by
          rcases h3.2 with h | ⟨h, h'⟩
          · omega
          · have := h6 h; omega
        rw [← e]
        exact get_at p m cg lst x.i x.s nm t rt d ld cd l ll cl h lh ch tg gr v lv cv (val x.i x.s) w hp hm hl r4 g4
      · exact absurd hcf (by decide)
theorem ItOk.oct {w : World} {lst : Mp} {val : Int → Int → List Int} (ho : ItOk w lst val) {x : Mz} (hcf : cfD lst true x = 0) : Oct (val x.i x.s) := by
  obtain ⟨nm, t, rt, d, ld, cd, l, ll, cl, h, lh, ch, tg, gr, v, lv, cv, _, r, _⟩ := cfD_va ho hcf
  exact r.row.oct

theorem chkC_zero {lst : Mp} {out : Bool} {ms : List Mz} (h : chkC lst out ms = 0) : ms.length ≤ 64 ∧ (∀ x ∈ ms, cfD lst out x = 0) ∧ (∀ x ∈ ms, 0 ≤ x.b) ∧ sumB (ms.map Mz.q) ms.length ≤ 64 := by
  have hl : ms.length ≤ 64 := by
    unfold chkC at h
    split at h
    · exact absurd h (by decide)
    · omega
  have hz : (∀ x ∈ ms, cfD lst out x = 0) ∧ 0 + (ms.map (·.b)).sum ≤ 64 := by
    unfold chkC at h
    rw [if_neg (by omega)] at h
    exact chkZ_zero _ ms 0 h (by decide)
  have hb : ∀ x ∈ ms, 0 ≤ x.b := fun x hx => (cfD_bd (hz.1 x hx)).1
  refine ⟨hl, hz.1, hb, ?_⟩
  unfold sumB
  rw [List.take_of_length_le (by simp)]
  have := sum_q ms hb
  omega

end Go.Proofs.YtajllkkbgpijiaaDoor
namespace Go.Proofs.YtajllkkbgpijiaaDoor
open Go.RowKit

theorem EmIn.next12 {w W : World} {e : Em} (h : EmIn w e) (hb : Below w.heap.size w W) : EmIn W e := ⟨h.rd.next hb, h.rl.next hb, h.rh.next hb, h.b1, h.b2, h.b3⟩
theorem EmAtO.next12 {w W : World} {eb off k : Nat} {e : Em} (h : EmAtO w eb off k e) (B : Below w.heap.size w W) : EmAtO W eb off k e := by
  obtain ⟨m0, m1, m2, m3, m4, m5, m6, m7, m8, m9⟩ := h
  exact ⟨(B.cell (block_lt_of_cell m0)).trans m0, (B.cell (block_lt_of_cell m1)).trans m1, (B.cell (block_lt_of_cell m2)).trans m2, (B.cell (block_lt_of_cell m3)).trans m3, (B.cell (block_lt_of_cell m4)).trans m4, (B.cell (block_lt_of_cell m5)).trans m5, (B.cell (block_lt_of_cell m6)).trans m6, (B.cell (block_lt_of_cell m7)).trans m7, (B.cell (block_lt_of_cell m8)).trans m8, (B.cell (block_lt_of_cell m9)).trans m9⟩
/-- The two dictionaries of entries that may be. -/
structure BothD (es : List Em) (W : World) (p m : Nat) (lst : Mp) (q : Nat) (v : Value) (xs : List Xi) : Prop where
  hp : W.heap[p]? = some (.cells #[.map (some m), .int .i64 0] 77 (0, 0))
  hm : IsM W m lst
  hb : ∃ lo, Built W lo es lst
  hq : W.heap[q]? = some (.cells #[v, .int .i64 0] 70 (0, 0))
  hx : ∃ b, IsX W b v xs
  hd : DocX W xs (docG [] es).2
  hs : SortE (docG [] es).2
  hi : ∀ x, x ∈ (docG [] es).2 ↔ x ∈ es
  hl : xs.length = es.length
  hn : es.length ≤ 1024
  hz : ∀ e ∈ es, e.zd.length ≤ 16777216
  ho : ItOk W lst (valE es)
theorem BothD.next {es : List Em} {W W' : World} {p m : Nat} {lst : Mp} {q : Nat} {v : Value} {xs : List Xi} (h : BothD es W p m lst q v xs) (hb : Below W.heap.size W W') : BothD es W' p m lst q v xs := by
  obtain ⟨lo, hbu⟩ := h.hb
  obtain ⟨b, hx⟩ := h.hx
  exact ⟨blk11 hb h.hp, h.hm.next hb, ⟨lo, hbu.kp (Kp.of (S := []) hb) (by simp)⟩, blk11 hb h.hq, ⟨b, hx.next hb⟩, h.hd.next hb, h.hs, h.hi, h.hl, h.hn, h.hz, h.ho.next hb⟩
def BothPost (es : List Em) (w : World) (e : Ending) (w' : World) : Prop :=
  ((newC es = 0 ∧ ∃ p m lst q v xs, e = .returned (.tuple #[.pointer (some ⟨p, 0, none⟩), .pointer (some ⟨q, 0, none⟩)]) ∧ BothD es w' p m lst q v xs) ∨
   (newC es ≠ 0 ∧ e = .returned (.tuple #[.pointer none, .pointer none]))) ∧ Below w.heap.size w w'

set_option linter.unusedSimpArgs false in
set_option maxHeartbeats 4000000 in
set_option maxRecDepth 100000 in
theorem both_any (ad : Option Addr) (eb off cap : Nat) (es : List Em) (w : World) (had : 0 < es.length → ad = some ⟨eb, off, none⟩) (hok : ∀ e ∈ es, EmIn w e) (hat : ∀ (k : Nat) (e : Em), es[k]? = some e → EmAtO w eb off k e) (hT : Ty.Tab64 w) :
    Calls Tryd.prog 6 #[.slice ad es.length cap] w (BothPost es w) := by
  have NW := new_any ad eb off cap es w had hok hat hT
  have RN : Hid (∀ W, Below w.heap.size w W → Calls Tryd.prog 15 #[.slice ad es.length cap] W (RNew es W)) := fun W hb => rnew_any ad eb off cap es W had (fun e he => (hok e he).next12 hb) (fun k e he => (hat k e he).next12 hb)
  have HZ : Hid (∀ e ∈ es, e.zd.length ≤ 16777216) := fun e he => by rw [(hok e he).rd.row.size]; exact (hok e he).b1
  have HOK : Hid (∀ e ∈ es, EmIn w e) := hok
  clear had hok hat hT
  obtain ⟨N, HN⟩ : ∃ N, Hid (es.length = N) := ⟨_, rfl⟩
  rw [HN.out] at NW RN ⊢
  go_enter Tryd.func6, Tryd.ntmps6
  go_wp2_with fail
  refine NW.mono ?_
  clear NW
  rintro r w1 (⟨hc, lst, rfl, hb, hp, hm, hbu⟩ | ⟨hc, rfl, hb⟩)
  · have B1 : Hid (Below w.heap.size w w1) := hb
    have HC : Hid (newC es = 0) := hc
    have HD : Hid (w1.heap[w.heap.size + 1]? = some (.cells #[.map (some w.heap.size), .int .i64 0] 77 (0, 0)) ∧ IsM w1 w.heap.size lst ∧ Built w1 (w.heap.size + 2) es lst) := ⟨hp, hm, hbu⟩
    clear hc hb hp hm hbu
    go_wp2_with fail
    refine (RN.out _ B1.out).mono ?_
    rintro r w2 (⟨hc, q, v, xs, rfl, hq, hb, hqd, hx, h1, h2, h3, h4⟩ | ⟨hc, rfl, hb⟩)
    · have B2 : Hid (Below w.heap.size w w2) := Below.andThen B1.out hb
      have F : Hid (BothD es w2 (w.heap.size + 1) w.heap.size lst q v xs) := ⟨blk11 hb HD.out.1, HD.out.2.1.next hb, ⟨_, HD.out.2.2.kp (Kp.of (S := []) hb) (by simp)⟩, hqd, ⟨_, hx⟩, h3, h1, h2, h4, by
        by_cases h : 1024 < es.length
        · have := HC.out; unfold newC at this; rw [if_pos h] at this; cases this
        · omega, HZ.out, (built_items HD.out.2.2 HC.out HOK.out).next hb⟩
      clear hc hq hb hqd hx h1 h2 h3 h4
      go_wp2_with fail
      go_ret2
      exact ⟨.inl ⟨HC.out, _, _, lst, q, v, xs, rfl, F.out⟩, B2.out⟩
    · exact absurd HC.out hc
  · have B1 : Hid (Below w.heap.size w w1) := hb
    have HC : Hid (newC es ≠ 0) := hc
    have hc' : ¬ newC es = 0 := hc
    have hcb : (newC es == 0) = false := by simpa using hc
    clear hb
    go_wp2_with fail
    refine (RN.out _ B1.out).mono ?_
    rintro r w2 (⟨hc2, q, v, xs, rfl, hq, hb, hqd, hx, h1, h2, h3, h4⟩ | ⟨hc2, rfl, hb⟩)
    · exact absurd hc2 hc
    · have B2 : Hid (Below w.heap.size w w2) := Below.andThen B1.out hb
      clear hc2 hb
      go_wp2_with fail
      go_ret2
      exact ⟨.inr ⟨HC.out, rfl⟩, B2.out⟩
/-- An entry's item in the program's dictionary. -/
theorem look_of {W : World} {lo : Nat} {es S : List Em} {lst : Mp} (hB : Built W lo es lst) (hm : ∀ e, e ∈ S ↔ e ∈ es) (hS : SortE S) {e : Em} (he : e ∈ es) : ∃ a1 c1 a2 c2 a3 c3 v lv cv, lookP lst e.i e.s = some (.agg (itC e.i e.s e.nm e.t e.rt a1 e.ld c1 a2 e.ll c2 a3 e.lh c3 e.tg e.gr v lv cv)) ∧ SlOk W v lv cv (firstL e.t e.zd) := by
  have hu : (es.any fun z => e.i == z.i && e.s == z.s) = true := by
    rw [List.any_eq_true]
    exact ⟨e, he, by simp⟩
  obtain ⟨i7, s7, nm7, t7, rt7, d7, ld7, cd7, l7, ll7, cl7, h7, lh7, ch7, tg7, gr7, v7, lv7, cv7, hq⟩ := hB.found e.i e.s hu
  have hmem := lookP_mem lst e.i e.s _ hq
  obtain ⟨k, hk, hk2⟩ := List.getElem_of_mem hmem
  have hk' : k < es.length := by rw [← hB.1]; exact hk
  obtain ⟨a1, c1, a2, c2, a3, c3, v, lv, cv, g, _, _, _, hv⟩ := hB.2 k es[k] (List.getElem?_eq_getElem hk')
  rw [List.getElem?_eq_getElem hk, hk2] at g
  have g' := Option.some.inj g
  have hi : e.i = es[k].i := congrArg Prod.fst g'
  have hs : e.s = es[k].s := congrArg (fun z => z.2.1) g'
  have ee : e = es[k] := sort_one hS ((hm _).2 he) ((hm _).2 (List.getElem_mem hk')) hi hs
  have hvv : Value.agg (itC i7 s7 nm7 t7 rt7 d7 ld7 cd7 l7 ll7 cl7 h7 lh7 ch7 tg7 gr7 v7 lv7 cv7) = Value.agg (itC es[k].i es[k].s es[k].nm es[k].t es[k].rt a1 es[k].ld c1 a2 es[k].ll c2 a3 es[k].lh c3 es[k].tg es[k].gr v lv cv) := congrArg (fun z => z.2.2) g'
  rw [hvv] at hq
  rw [← ee] at hq hv
  exact ⟨a1, c1, a2, c2, a3, c3, v, lv, cv, hq, hv.1⟩
theorem IsX.cells {w : World} {base g cap n : Nat} {l : List Xi} (hn : l.length = n) (h : IsX w base (.slice (some ⟨g, 0, none⟩) n cap) l) {k : Nat} {x : Xi} (hx : l[k]? = some x) {j : Nat} {u : Value} (hu : x.L[j]? = some u) : w.cell? ⟨g, k * 11 + j, none⟩ = some u := by
  subst hn
  obtain ⟨hk, he⟩ := List.getElem?_eq_some_iff.1 hx
  have e1 : (l.drop k).take 1 = [x] := by rw [List.drop_eq_getElem_cons hk, he]; rfl
  have := h.news k 1 (by omega) j u (by rw [e1, flx_one]; exact hu)
  rw [Addr.add_lit] at this
  exact this
set_option linter.unusedSimpArgs false in
set_option maxHeartbeats 4000000 in
set_option maxRecDepth 100000 in
theorem changes_any (p : Nat) (v : Value) (n : Int) (w : World) (hp : w.heap[p]? = some (.cells #[v, .int .i64 n] 77 (0, 0))) : Calls Tryd.prog 25 #[.pointer (some ⟨p, 0, none⟩)] w fun e w' => e = .returned (.int .i64 n) ∧ w' = w := by
  have c1 : w.cell? ⟨p, 1, none⟩ = some (.int .i64 n) := by rw [cell_of_row _ _ 1 _ _ _ hp]; rfl
  clear hp
  go_enter Tryd.func25, Tryd.ntmps25
  go_wp2_with fail
  go_ret
  exact ⟨rfl, rfl⟩
set_option linter.unusedSimpArgs false in
set_option maxHeartbeats 4000000 in
set_option maxRecDepth 100000 in
theorem same_any {es : List Em} {w : World} {p m : Nat} {lst : Mp} {q : Nat} {v : Value} {xs : List Xi} (h : BothD es w p m lst q v xs) :
    Calls Tryd.prog 10 #[.pointer (some ⟨p, 0, none⟩), .pointer (some ⟨q, 0, none⟩)] w fun e w' => e = .returned (.bool true) ∧ Below w.heap.size w w' := by
  have H : Hid (BothD es w p m lst q v xs) := h
  obtain ⟨bs, hx⟩ := h.hx
  obtain ⟨vA, vC, rfl, hva⟩ := hx.form2
  have hl := h.hl
  have hn := h.hn
  clear h
  obtain ⟨N, HN⟩ : ∃ N, Hid (xs.length = N) := ⟨_, rfl⟩
  rw [HN.out] at hx hva H hl
  have HX : Hid (IsX w bs (.slice vA N vC) xs) := hx
  have VA : Hid (0 < N → ∃ g, vA = some ⟨g, 0, none⟩) := hva
  have CQ : Hid (∀ W, Below w.heap.size w W → W.cell? ⟨q, 0, none⟩ = some (.slice vA N vC) ∧ W.cell? ⟨q, 1, none⟩ = some (.int .i64 0)) := fun W hW => ⟨by rw [cell_of_row _ _ 0 _ _ _ (blk11 hW H.out.hq)]; rfl, by rw [cell_of_row _ _ 1 _ _ _ (blk11 hW H.out.hq)]; rfl⟩
  have CH : Hid (∀ W, Below w.heap.size w W → Calls Tryd.prog 25 #[.pointer (some ⟨p, 0, none⟩)] W fun e w' => e = .returned (.int .i64 0) ∧ w' = W) := fun W hW => changes_any p _ 0 W (blk11 hW H.out.hp)
  have hN9 : N ≤ 1024 := by omega
  clear hx hva hl hn
  go_enter Tryd.func10, Tryd.ntmps10
  go_wp2_with fail
  go_loopw [5] (fun iv wr => ∃ k : Nat, k ≤ N ∧ iv = .int .i64 (k : Int) ∧ Hid (Below w.heap.size w wr)) (fun iv _ => N - (intOf iv).toNat)
  case atStart => exact ⟨0, Nat.zero_le _, rfl, Below.refl _ _⟩
  case round =>
    obtain ⟨k, hk, rfl, HB⟩ := hrel
    obtain ⟨q0, q1⟩ := CQ.out _ HB.out
    by_cases hkN : k < N
    · obtain ⟨g, rfl⟩ := VA.out (by omega)
      have gk : (k : Int) < (N : Int) := by omega
      have gk0 : (0 : Int) ≤ (k : Int) := by omega
      have wk : IntKind.i64.wrap ((k : Int) + 1) = ((k + 1 : Nat) : Int) := by rw [IntKind.wrap_i64]; omega
      obtain ⟨e, he⟩ : ∃ e, (docG [] es).2[k]? = some e := ⟨_, List.getElem?_eq_getElem (by rw [← H.out.hd.1, HN.out]; exact hkN)⟩
      obtain ⟨xv, xn, xc, hxk, hxv⟩ := H.out.hd.2 k e he
      have hes : e ∈ es := (H.out.hi e).1 (List.mem_of_getElem? he)
      obtain ⟨lo, hbu⟩ := H.out.hb
      obtain ⟨a1, c1, a2, c2, a3, c3, v7, lv7, cv7, hlk, hv7⟩ := look_of hbu H.out.hi H.out.hs hes
      have hzl := H.out.hz e hes
      obtain ⟨FL, HFL⟩ : ∃ FL, Hid (FL = firstL e.t e.zd) := ⟨_, rfl⟩
      rw [← HFL.out] at hxv hv7
      have l7 : lv7 = xn := by rw [← hv7.row.size, ← hxv.row.size]
      subst l7
      have GT : Hid (∀ W, Below w.heap.size w W → Calls Tryd.prog 14 #[.pointer (some ⟨p, 0, none⟩), plV e.i e.s] W fun r w' => (∃ a' cap', r = .returned (.tuple #[.slice a' lv7 cap', .bool true]) ∧ Told W w' a' lv7 cap' FL) ∧ Below W.heap.size W w') := fun W hW => get_at p m 0 lst e.i e.s _ _ _ _ _ _ _ _ _ _ _ _ _ _ v7 lv7 cv7 FL W (blk11 hW H.out.hp) (H.out.hm.next hW) hlk (hv7.next hW) (by
        rw [← hv7.row.size, HFL.out]
        unfold firstL
        split
        · exact hzl
        · have := Ty.Pl.size_bd e.t
          unfold Ty.zeros
          rw [List.length_replicate]
          omega)
      have HXV : Hid (SlOk w xv lv7 xc FL) := hxv
      have CE : Hid (∀ W, Below w.heap.size w W → W.cell? ⟨g, k * 11, none⟩ = some (.int .u16 e.i) ∧ W.cell? ⟨g, k * 11 + 1, none⟩ = some (.int .u8 e.s) ∧ W.cell? ⟨g, k * 11 + 10, none⟩ = some (.slice xv lv7 xc)) := fun W hW => ⟨(HX.out.next hW).cells HN.out hxk (j := 0) rfl, (HX.out.next hW).cells HN.out hxk (j := 1) rfl, (HX.out.next hW).cells HN.out hxk (j := 10) rfl⟩
      obtain ⟨i, s, nm, t, rt, d, ld, cd, l, ll, cl, h, lh, ch, tg, gr, zd, zl, zh⟩ := e
      dsimp only at GT CE
      clear he hxk hxv hes hbu hlk hv7 hzl HFL
      obtain ⟨ce0, ce1, ce2⟩ := CE.out _ HB.out
      go_wp2_with fail
      refine wp_region_held_drew (S := fun x => Below w.heap.size w x ∧ x.cell? ⟨q, 0, none⟩ = some (.slice (some ⟨g, 0, none⟩) N vC) ∧ x.cell? ⟨g, k * 11, none⟩ = some (.int .u16 i) ∧ x.cell? ⟨g, k * 11 + 1, none⟩ = some (.int .u8 s) ∧ x.cell? ⟨g, k * 11 + 10, none⟩ = some (.slice xv lv7 xc)) (by kernel_rfl) (⟨Below.drew HB.out, q0, ce0, ce1, ce2⟩) (fun hHeld => ?_)
      refine tk 0 (.pointer (some ⟨p, 0, none⟩)) rfl (.inl ⟨by rfl, ?_⟩) ?_
      · intro w9 hSw
        try dsimp only at hSw
        go_simp
        all_goals try decide
        all_goals try assumption
        all_goals try omega
      try simp only [Act.put, gA, gS, gZ, sA, sZ, sS]
      refine tk 1 (.pointer (some ⟨q, 0, none⟩)) rfl (.inl ⟨by rfl, ?_⟩) ?_
      · intro w9 hSw
        try dsimp only at hSw
        go_simp
        all_goals try decide
        all_goals try assumption
        all_goals try omega
      try simp only [Act.put, gA, gS, gZ, sA, sZ, sS]
      refine tk 2 (.pointer (some ⟨q, 0, none⟩)) rfl (.inl ⟨by rfl, ?_⟩) ?_
      · intro w9 hSw
        try dsimp only at hSw
        go_simp
        all_goals try decide
        all_goals try assumption
        all_goals try omega
      try simp only [Act.put, gA, gS, gZ, sA, sZ, sS]
      refine tk 3 (.pointer (some ⟨q, 0, none⟩)) rfl (.inl ⟨by rfl, ?_⟩) ?_
      · intro w9 hSw
        try dsimp only at hSw
        go_simp
        all_goals try decide
        all_goals try assumption
        all_goals try omega
      try simp only [Act.put, gA, gS, gZ, sA, sZ, sS]
      refine tk 4 (.slice (some ⟨g, 0, none⟩) N vC) rfl (.inl ⟨by rfl, ?_⟩) ?_
      · intro w9 hSw
        try dsimp only at hSw
        go_simp
        all_goals try decide
        all_goals try assumption
        all_goals try omega
      try simp only [Act.put, gA, gS, gZ, sA, sZ, sS]
      refine tk 5 (.int .i64 (k : Int)) rfl (.inl ⟨by rfl, ?_⟩) ?_
      · intro w9 hSw
        try dsimp only at hSw
        go_simp
        all_goals try decide
        all_goals try assumption
        all_goals try omega
      try simp only [Act.put, gA, gS, gZ, sA, sZ, sS]
      refine tk 6 (.pointer (some ⟨g, k * 11, none⟩)) rfl (.inl ⟨by rfl, ?_⟩) ?_
      · intro w9 hSw
        try dsimp only at hSw
        go_simp
        all_goals try decide
        all_goals try assumption
        all_goals try omega
      try simp only [Act.put, gA, gS, gZ, sA, sZ, sS]
      refine tk 7 (.pointer (some ⟨g, k * 11, none⟩)) rfl (.inl ⟨by rfl, ?_⟩) ?_
      · intro w9 hSw
        try dsimp only at hSw
        go_simp
        all_goals try decide
        all_goals try assumption
        all_goals try omega
      try simp only [Act.put, gA, gS, gZ, sA, sZ, sS]
      refine tk 8 (.pointer (some ⟨g, k * 11, none⟩)) rfl (.inl ⟨by rfl, ?_⟩) ?_
      · intro w9 hSw
        try dsimp only at hSw
        go_simp
        all_goals try decide
        all_goals try assumption
        all_goals try omega
      try simp only [Act.put, gA, gS, gZ, sA, sZ, sS]
      refine tk 9 (.int .u16 i) rfl (.inl ⟨by rfl, ?_⟩) ?_
      · intro w9 hSw
        try dsimp only at hSw
        go_simp
        all_goals try decide
        all_goals try assumption
        all_goals try omega
      try simp only [Act.put, gA, gS, gZ, sA, sZ, sS]
      refine tk 10 (.pointer (some ⟨q, 0, none⟩)) rfl (.inl ⟨by rfl, ?_⟩) ?_
      · intro w9 hSw
        try dsimp only at hSw
        go_simp
        all_goals try decide
        all_goals try assumption
        all_goals try omega
      try simp only [Act.put, gA, gS, gZ, sA, sZ, sS]
      refine tk 11 (.pointer (some ⟨q, 0, none⟩)) rfl (.inl ⟨by rfl, ?_⟩) ?_
      · intro w9 hSw
        try dsimp only at hSw
        go_simp
        all_goals try decide
        all_goals try assumption
        all_goals try omega
      try simp only [Act.put, gA, gS, gZ, sA, sZ, sS]
      refine tk 12 (.pointer (some ⟨q, 0, none⟩)) rfl (.inl ⟨by rfl, ?_⟩) ?_
      · intro w9 hSw
        try dsimp only at hSw
        go_simp
        all_goals try decide
        all_goals try assumption
        all_goals try omega
      try simp only [Act.put, gA, gS, gZ, sA, sZ, sS]
      refine tk 13 (.slice (some ⟨g, 0, none⟩) N vC) rfl (.inl ⟨by rfl, ?_⟩) ?_
      · intro w9 hSw
        try dsimp only at hSw
        go_simp
        all_goals try decide
        all_goals try assumption
        all_goals try omega
      try simp only [Act.put, gA, gS, gZ, sA, sZ, sS]
      refine tk 14 (.int .i64 (k : Int)) rfl (.inl ⟨by rfl, ?_⟩) ?_
      · intro w9 hSw
        try dsimp only at hSw
        go_simp
        all_goals try decide
        all_goals try assumption
        all_goals try omega
      try simp only [Act.put, gA, gS, gZ, sA, sZ, sS]
      refine tk 15 (.pointer (some ⟨g, k * 11, none⟩)) rfl (.inl ⟨by rfl, ?_⟩) ?_
      · intro w9 hSw
        try dsimp only at hSw
        go_simp
        all_goals try decide
        all_goals try assumption
        all_goals try omega
      try simp only [Act.put, gA, gS, gZ, sA, sZ, sS]
      refine tk 16 (.pointer (some ⟨g, k * 11, none⟩)) rfl (.inl ⟨by rfl, ?_⟩) ?_
      · intro w9 hSw
        try dsimp only at hSw
        go_simp
        all_goals try decide
        all_goals try assumption
        all_goals try omega
      try simp only [Act.put, gA, gS, gZ, sA, sZ, sS]
      refine tk 17 (.pointer (some ⟨g, k * 11 + 1, none⟩)) rfl (.inl ⟨by rfl, ?_⟩) ?_
      · intro w9 hSw
        try dsimp only at hSw
        go_simp
        all_goals try decide
        all_goals try assumption
        all_goals try omega
      try simp only [Act.put, gA, gS, gZ, sA, sZ, sS]
      refine tk 18 (.int .u8 s) rfl (.inl ⟨by rfl, ?_⟩) ?_
      · intro w9 hSw
        try dsimp only at hSw
        go_simp
        all_goals try decide
        all_goals try assumption
        all_goals try omega
      try simp only [Act.put, gA, gS, gZ, sA, sZ, sS]
      refine tk 19 (plV i s) rfl (.inl ⟨by rfl, ?_⟩) ?_
      · intro w9 hSw
        try dsimp only at hSw
        go_simp
        all_goals try decide
        all_goals try assumption
        all_goals try omega
      try simp only [Act.put, gA, gS, gZ, sA, sZ, sS]
      refine wpAnyH_ready (rs := [20]) (by kernel_rfl) (by simp) ?_
      refine AllReadyH.cons rfl (fun K' hK => ?_) AllReadyH.nil
      rw [if_pos (by rfl)]
      simp only [gA, gS, gZ]
      go_wp2_with fail
      refine (GT.out _ hHeld.1).mono ?_
      rintro r w5 ⟨⟨a5, cap5, rfl, hT5⟩, hb5⟩
      try go_wp2_with fail
      refine hK.out _ _ (⟨Below.andThen hHeld.1 hb5, (hb5.cell (block_lt_of_cell hHeld.2.1)).trans hHeld.2.1, (hb5.cell (block_lt_of_cell hHeld.2.2.1)).trans hHeld.2.2.1, (hb5.cell (block_lt_of_cell hHeld.2.2.2.1)).trans hHeld.2.2.2.1, (hb5.cell (block_lt_of_cell hHeld.2.2.2.2)).trans hHeld.2.2.2.2⟩) (fun hHeld => ?_)
      clear hK K'
      try simp only [Act.put, gA, gS, gZ, sA, sZ, sS]
      refine tk 21 (.tuple #[.slice a5 lv7 cap5, .bool true]) rfl (.inl ⟨by rfl, ?_⟩) ?_
      · intro w9 hSw
        try dsimp only at hSw
        go_simp
        all_goals try decide
        all_goals try assumption
        all_goals try omega
      try simp only [Act.put, gA, gS, gZ, sA, sZ, sS]
      refine tk 22 (.slice a5 lv7 cap5) rfl (.inl ⟨by rfl, ?_⟩) ?_
      · intro w9 hSw
        try dsimp only at hSw
        go_simp
        all_goals try decide
        all_goals try assumption
        all_goals try omega
      try simp only [Act.put, gA, gS, gZ, sA, sZ, sS]
      refine tk 23 (.bool true) rfl (.inl ⟨by rfl, ?_⟩) ?_
      · intro w9 hSw
        try dsimp only at hSw
        go_simp
        all_goals try decide
        all_goals try assumption
        all_goals try omega
      try simp only [Act.put, gA, gS, gZ, sA, sZ, sS]
      refine tk 24 (.slice a5 lv7 cap5) rfl (.inl ⟨by rfl, ?_⟩) ?_
      · intro w9 hSw
        try dsimp only at hSw
        go_simp
        all_goals try decide
        all_goals try assumption
        all_goals try omega
      try simp only [Act.put, gA, gS, gZ, sA, sZ, sS]
      refine tk 25 (.bool true) rfl (.inl ⟨by rfl, ?_⟩) ?_
      · intro w9 hSw
        try dsimp only at hSw
        go_simp
        all_goals try decide
        all_goals try assumption
        all_goals try omega
      try simp only [Act.put, gA, gS, gZ, sA, sZ, sS]
      refine wpAnyH_done (by kernel_rfl) ?_ _
      have H4 := hHeld
      have T5 : Hid (SlOk w5 a5 lv7 cap5 FL) := hT5.sl
      clear hHeld hT5 hb5 q0 q1 ce0 ce1 ce2
      go_wp2_with fail
      refine wp_region_held_drew (S := fun x => (Below w5.heap.size w5 x ∧ Below w.heap.size w x) ∧ x.cell? ⟨q, 0, none⟩ = some (.slice (some ⟨g, 0, none⟩) N vC) ∧ x.cell? ⟨g, k * 11, none⟩ = some (.int .u16 i) ∧ x.cell? ⟨g, k * 11 + 1, none⟩ = some (.int .u8 s) ∧ x.cell? ⟨g, k * 11 + 10, none⟩ = some (.slice xv lv7 xc)) (by kernel_rfl) (⟨⟨Below.drew (Below.refl _ _), Below.drew H4.1⟩, H4.2.1, H4.2.2.1, H4.2.2.2.1, H4.2.2.2.2⟩) (fun hHeld => ?_)
      refine tk 0 (.bool true) rfl (.inl ⟨by rfl, ?_⟩) ?_
      · intro w9 hSw
        try dsimp only at hSw
        go_simp
        all_goals try decide
        all_goals try assumption
        all_goals try omega
      try simp only [Act.put, gA, gS, gZ, sA, sZ, sS]
      refine tk 1 (.bool false) rfl (.inl ⟨by rfl, ?_⟩) ?_
      · intro w9 hSw
        try dsimp only at hSw
        go_simp
        all_goals try decide
        all_goals try assumption
        all_goals try omega
      try simp only [Act.put, gA, gS, gZ, sA, sZ, sS]
      refine tk 2 (.bool false) rfl (.inl ⟨by rfl, ?_⟩) ?_
      · intro w9 hSw
        try dsimp only at hSw
        go_simp
        all_goals try decide
        all_goals try assumption
        all_goals try omega
      try simp only [Act.put, gA, gS, gZ, sA, sZ, sS]
      refine tk 3 (.slice a5 lv7 cap5) rfl (.inl ⟨by rfl, ?_⟩) ?_
      · intro w9 hSw
        try dsimp only at hSw
        go_simp
        all_goals try decide
        all_goals try assumption
        all_goals try omega
      try simp only [Act.put, gA, gS, gZ, sA, sZ, sS]
      refine tk 4 (.string (strOfNums FL)) rfl (.inl ⟨by rfl, ?_⟩) ?_
      · intro w9 hSw
        try dsimp only at hSw
        have s1 := (T5.out.row.next hSw.1.1).str cap5
        go_simp
        all_goals try assumption
      try simp only [Act.put, gA, gS, gZ, sA, sZ, sS]
      refine tk 5 (.pointer (some ⟨q, 0, none⟩)) rfl (.inl ⟨by rfl, ?_⟩) ?_
      · intro w9 hSw
        try dsimp only at hSw
        go_simp
        all_goals try decide
        all_goals try assumption
        all_goals try omega
      try simp only [Act.put, gA, gS, gZ, sA, sZ, sS]
      refine tk 6 (.pointer (some ⟨q, 0, none⟩)) rfl (.inl ⟨by rfl, ?_⟩) ?_
      · intro w9 hSw
        try dsimp only at hSw
        go_simp
        all_goals try decide
        all_goals try assumption
        all_goals try omega
      try simp only [Act.put, gA, gS, gZ, sA, sZ, sS]
      refine tk 7 (.pointer (some ⟨q, 0, none⟩)) rfl (.inl ⟨by rfl, ?_⟩) ?_
      · intro w9 hSw
        try dsimp only at hSw
        go_simp
        all_goals try decide
        all_goals try assumption
        all_goals try omega
      try simp only [Act.put, gA, gS, gZ, sA, sZ, sS]
      refine tk 8 (.slice (some ⟨g, 0, none⟩) N vC) rfl (.inl ⟨by rfl, ?_⟩) ?_
      · intro w9 hSw
        try dsimp only at hSw
        go_simp
        all_goals try decide
        all_goals try assumption
        all_goals try omega
      try simp only [Act.put, gA, gS, gZ, sA, sZ, sS]
      refine tk 9 (.int .i64 (k : Int)) rfl (.inl ⟨by rfl, ?_⟩) ?_
      · intro w9 hSw
        try dsimp only at hSw
        go_simp
        all_goals try decide
        all_goals try assumption
        all_goals try omega
      try simp only [Act.put, gA, gS, gZ, sA, sZ, sS]
      refine tk 10 (.pointer (some ⟨g, k * 11, none⟩)) rfl (.inl ⟨by rfl, ?_⟩) ?_
      · intro w9 hSw
        try dsimp only at hSw
        go_simp
        all_goals try decide
        all_goals try assumption
        all_goals try omega
      try simp only [Act.put, gA, gS, gZ, sA, sZ, sS]
      refine tk 11 (.pointer (some ⟨g, k * 11 + 10, none⟩)) rfl (.inl ⟨by rfl, ?_⟩) ?_
      · intro w9 hSw
        try dsimp only at hSw
        go_simp
        all_goals try decide
        all_goals try assumption
        all_goals try omega
      try simp only [Act.put, gA, gS, gZ, sA, sZ, sS]
      refine tk 12 (.slice xv lv7 xc) rfl (.inl ⟨by rfl, ?_⟩) ?_
      · intro w9 hSw
        try dsimp only at hSw
        go_simp
        all_goals try decide
        all_goals try assumption
        all_goals try omega
      try simp only [Act.put, gA, gS, gZ, sA, sZ, sS]
      refine tk 13 (.string (strOfNums FL)) rfl (.inl ⟨by rfl, ?_⟩) ?_
      · intro w9 hSw
        try dsimp only at hSw
        have s1 := (HXV.out.row.next hSw.1.2).str xc
        go_simp
        all_goals try assumption
      try simp only [Act.put, gA, gS, gZ, sA, sZ, sS]
      refine tk 14 (.bool false) rfl (.inl ⟨by rfl, ?_⟩) ?_
      · intro w9 hSw
        try dsimp only at hSw
        go_simp
        all_goals try decide
        all_goals try assumption
        all_goals try omega
      try simp only [Act.put, gA, gS, gZ, sA, sZ, sS]
      refine tk 15 (.bool false) rfl (.inl ⟨by rfl, ?_⟩) ?_
      · intro w9 hSw
        try dsimp only at hSw
        go_simp
        all_goals try decide
        all_goals try assumption
        all_goals try omega
      try simp only [Act.put, gA, gS, gZ, sA, sZ, sS]
      refine wpAnyH_done (by kernel_rfl) ?_ _
      have B9 := hHeld.1.2
      clear hHeld
      go_wp2_with fail
      exact ⟨⟨k + 1, by omega, by go_num, B9⟩, by simp [intOf]; omega⟩
    · obtain rfl : k = N := by omega
      go_wp2_with fail
      refine wp_region_held_drew (S := fun x => Below w.heap.size w x ∧ x.cell? ⟨q, 1, none⟩ = some (.int .i64 0)) (by kernel_rfl) (⟨Below.drew HB.out, q1⟩) (fun hHeld => ?_)
      refine tk 0 (.pointer (some ⟨p, 0, none⟩)) rfl (.inl ⟨by rfl, ?_⟩) ?_
      · intro w9 hSw
        try dsimp only at hSw
        go_simp
        all_goals try decide
        all_goals try assumption
        all_goals try omega
      try simp only [Act.put, gA, gS, gZ, sA, sZ, sS]
      refine tk 2 (.pointer (some ⟨q, 0, none⟩)) rfl (.inl ⟨by rfl, ?_⟩) ?_
      · intro w9 hSw
        try dsimp only at hSw
        go_simp
        all_goals try decide
        all_goals try assumption
        all_goals try omega
      try simp only [Act.put, gA, gS, gZ, sA, sZ, sS]
      refine tk 3 (.pointer (some ⟨q, 0, none⟩)) rfl (.inl ⟨by rfl, ?_⟩) ?_
      · intro w9 hSw
        try dsimp only at hSw
        go_simp
        all_goals try decide
        all_goals try assumption
        all_goals try omega
      try simp only [Act.put, gA, gS, gZ, sA, sZ, sS]
      refine tk 4 (.pointer (some ⟨q, 1, none⟩)) rfl (.inl ⟨by rfl, ?_⟩) ?_
      · intro w9 hSw
        try dsimp only at hSw
        go_simp
        all_goals try decide
        all_goals try assumption
        all_goals try omega
      try simp only [Act.put, gA, gS, gZ, sA, sZ, sS]
      refine tk 5 (.int .i64 0) rfl (.inl ⟨by rfl, ?_⟩) ?_
      · intro w9 hSw
        try dsimp only at hSw
        go_simp
        all_goals try decide
        all_goals try assumption
        all_goals try omega
      try simp only [Act.put, gA, gS, gZ, sA, sZ, sS]
      refine wpAnyH_ready (rs := [1]) (by kernel_rfl) (by simp) ?_
      refine AllReadyH.cons rfl (fun K' hK => ?_) AllReadyH.nil
      rw [if_pos (by rfl)]
      simp only [gA, gS, gZ]
      go_wp2_with fail
      refine (CH.out _ hHeld.1).mono ?_
      rintro r w5 ⟨rfl, rfl⟩
      try go_wp2_with fail
      refine hK.out _ _ (hHeld) (fun hHeld => ?_)
      clear hK K'
      try simp only [Act.put, gA, gS, gZ, sA, sZ, sS]
      refine tk 6 (.bool true) rfl (.inl ⟨by rfl, ?_⟩) ?_
      · intro w9 hSw
        try dsimp only at hSw
        go_simp
        all_goals try decide
        all_goals try assumption
        all_goals try omega
      try simp only [Act.put, gA, gS, gZ, sA, sZ, sS]
      refine tk 7 (.bool true) rfl (.inl ⟨by rfl, ?_⟩) ?_
      · intro w9 hSw
        try dsimp only at hSw
        go_simp
        all_goals try decide
        all_goals try assumption
        all_goals try omega
      try simp only [Act.put, gA, gS, gZ, sA, sZ, sS]
      refine wpAnyH_done (by kernel_rfl) ?_ _
      have B9 := hHeld.1
      clear hHeld
      go_wp2_with fail
      go_ret
      exact ⟨rfl, B9⟩
#print axioms both_any
#print axioms same_any
end Go.Proofs.YtajllkkbgpijiaaDoor
namespace Go.Proofs.YtajllkkbgpijiaaDoor
open Go.RowKit

theorem cfN_bd {out : Bool} {x : Mz} (h : cfN out x = 0) : 0 ≤ x.b ∧ x.b ≤ 64 := by
  refine cfD_bd (lst := []) (out := out) ?_
  unfold cfN at h
  unfold cfD
  by_cases hg : gapB x.i x.s x.b = true
  · rw [if_pos hg] at h ⊢
    exact h
  · rw [if_neg hg] at h
    cases h
theorem mcheck_nil (out : Bool) (x : Mz) (w : World) (h1 : 0 ≤ x.i) (h2 : x.i < 65536) : Calls Tryd.prog 38 #[mpV x.i x.s x.b, .pointer none, .bool out] w fun e w' => e = .returned (.int .u32 (cfN out x)) ∧ Below w.heap.size w w' := by
  cases hg : gapB x.i x.s x.b with
  | true =>
    rw [show cfN out x = if out then 100925505 else 0 by unfold cfN; rw [if_pos hg]]
    exact mcheck_gap out _ x.i x.s x.b w h1 h2 hg
  | false =>
    rw [show cfN out x = 134217728 by unfold cfN; rw [if_neg (by simp [hg])]]
    exact mcheck_miss out (.pointer none) 134217728 (by decide) x.i x.s x.b w h1 h2 hg fun W _ => findE_nil x.i x.s W
/-- Both dictionaries tell the same of Maps. -/
structure ChkTwo (w : World) (ms : List Mz) (dp mp : Value) (CD : Bool → Int) : Prop where
  p : ∀ W, Below w.heap.size w W → ∀ (out : Bool) (a : Option Addr) (G off cap : Nat), (0 < ms.length → a = some ⟨G, off, none⟩) → MzAt W G off ms → Calls Tryd.prog 16 #[dp, .slice a ms.length cap, .bool out] W fun e w' => e = .returned (.int .u32 (CD out)) ∧ Below W.heap.size W w'
  r : ∀ W, Below w.heap.size w W → ∀ (out : Bool) (a : Option Addr) (G off cap : Nat), (0 < ms.length → a = some ⟨G, off, none⟩) → MzAt W G off ms → Calls Tryd.prog 21 #[mp, .slice a ms.length cap, .bool out] W fun e w' => e = .returned (.int .u32 (CD out)) ∧ Below W.heap.size W w'
  z : ∀ out, CD out = 0 → ms.length ≤ 64 ∧ (∀ x ∈ ms, 0 ≤ x.b) ∧ sumB (ms.map Mz.q) ms.length ≤ 64
theorem two_gen {w : World} {ms : List Mz} {dp mp : Value} {cf : Bool → Mz → Int} (hbd : ∀ out x, cf out x = 0 → 0 ≤ x.b ∧ x.b ≤ 64)
    (hp : ∀ W, Below w.heap.size w W → ∀ out, ∀ x ∈ ms, Calls Tryd.prog 38 #[mpV x.i x.s x.b, dp, .bool out] W fun e w' => e = .returned (.int .u32 (cf out x)) ∧ Below W.heap.size W w')
    (hr : ∀ W, Below w.heap.size w W → ∀ out, ∀ x ∈ ms, Calls Tryd.prog 42 #[mp, mpV x.i x.s x.b, .bool out] W fun e w' => e = .returned (.int .u32 (cf out x)) ∧ Below W.heap.size W w') :
    ChkTwo w ms dp mp fun out => if 64 < ms.length then 100925506 else chkZ (cf out) ms 0 where
  p := fun W hW out a G off cap had hM => by
    by_cases h : 64 < ms.length
    · simp only [if_pos h]
      exact (check_many out _ _ ms.length cap W h).mono fun e w' ⟨h1, h2⟩ => ⟨h1, by rw [h2]; exact Below.refl _ _⟩
    · simp only [if_neg h]
      exact check_genZ out _ (cf out) a G off ms.length cap had ms W rfl (by omega) hM (fun x _ hx => by have := hbd out x hx; omega) fun W' hb x hx => hp W' (Below.andThen hW hb) out x hx
  r := fun W hW out a G off cap had hM => by
    by_cases h : 64 < ms.length
    · simp only [if_pos h]
      exact (rcheck_many out _ _ ms.length cap W h).mono fun e w' ⟨h1, h2⟩ => ⟨h1, by rw [h2]; exact Below.refl _ _⟩
    · simp only [if_neg h]
      exact rcheck_gen out _ (cf out) a G off ms.length cap had ms W rfl (by omega) hM (fun x _ hx => by have := hbd out x hx; omega) fun W' hb x hx => hr W' (Below.andThen hW hb) out x hx
  z := fun out h => by
    by_cases h6 : 64 < ms.length
    · simp only [if_pos h6] at h; cases h
    · simp only [if_neg h6] at h
      obtain ⟨h1, h2⟩ := chkZ_zero _ ms 0 h (by decide)
      have hb : ∀ x ∈ ms, 0 ≤ x.b := fun x hx => (hbd out x (h1 x hx)).1
      refine ⟨by omega, hb, ?_⟩
      unfold sumB
      rw [List.take_of_length_le (by simp)]
      have := sum_q ms hb
      omega
theorem two_none (w : World) {ms : List Mz} (hi : ∀ x ∈ ms, 0 ≤ x.i ∧ x.i < 65536) : ChkTwo w ms (.pointer none) (.pointer none) fun out => if 64 < ms.length then 100925506 else chkZ (cfN out) ms 0 :=
  two_gen (fun _ _ h => cfN_bd h) (fun W _ out x hx => mcheck_nil out x W (hi x hx).1 (hi x hx).2) fun W _ out x hx => one_nil out x W (hi x hx).1 (hi x hx).2
theorem two_some {es : List Em} {w : World} {p m : Nat} {lst : Mp} {q : Nat} {v : Value} {xs : List Xi} (h : BothD es w p m lst q v xs) {ms : List Mz} (hi : ∀ x ∈ ms, 0 ≤ x.i ∧ x.i < 65536) :
    ChkTwo w ms (.pointer (some ⟨p, 0, none⟩)) (.pointer (some ⟨q, 0, none⟩)) fun out => if 64 < ms.length then 100925506 else chkZ (cfD lst out) ms 0 :=
  two_gen (fun _ _ h => cfD_bd h) (fun W hW out x hx => mcheck_any out p m 0 lst (valE es) x W (blk11 hW h.hp) (h.hm.next hW) (h.ho.next hW) (hi x hx).1 (hi x hx).2) fun W hW out x hx => by
    have hn := h.next hW
    obtain ⟨b, hxx⟩ := hn.hx
    obtain ⟨lo, hbu⟩ := hn.hb
    refine (one_any q v 0 xs b out x W hn.hq hxx (by have := hn.hl; have := hn.hn; omega) (hi x hx).1 (hi x hx).2).mono ?_
    rintro e w' ⟨⟨c, hc, rfl⟩, hb⟩
    exact ⟨by rw [codes_same hbu hn.hd hn.hi hn.hs hc], hb⟩
/-- Maps that came in, put behind nothing. -/
theorem wpList_append_mz0 {ops : Array Oper} {rest : List Oper} {o : Oper} {a : Act} {w : World} {Q : Exit → Act → World → Prop} (hgd : o.guard = none) (s x : Operand)
    (ho : o.op = .call { callee := .builtin .append, args := #[s, x], argTypes := #[23, 23] }) (hs : a.eval s = .slice none 0 0)
    (a1 : Option Addr) (len1 cap1 : Nat) (ms : List Mz) (hx : a.eval x = .slice a1 len1 cap1) (hN : ms.length = len1) (g off : Nat) (had : 0 < ms.length → a1 = some ⟨g, off, none⟩) (hM : MzAt w g off ms) (h60 : len1 ≤ 1000)
    (h : ∀ a' G cap' w', (0 < ms.length → a' = some ⟨G, 0, none⟩) → MzAt w' G 0 ms → Below w.heap.size w w' → wpList Tryd.prog ops Q rest (a.put o.dst (.slice a' len1 cap')) w') : wpList Tryd.prog ops Q (o :: rest) a w := by
  obtain ⟨i0, hi, hz0, hz1, hz2⟩ := info_parts infoMz
  by_cases h0 : len1 = 0
  · subst h0
    have hm : ms = [] := List.eq_nil_of_length_eq_zero hN
    subst hm
    have src : Src Tryd.prog i0.size 23 (.slice a1 0 cap1) 0 [] w := by
      cases a1 with
      | none => exact Src.ofNil w Tryd.underlying23 cap1
      | some z => exact Src.ofSlice w Tryd.underlying23 z 0 cap1 [] (by simp) (fun j u hu => by simp at hu) (fun u hu => by simp at hu)
    have hrun := run_append_nothing (P := Tryd.prog) w 23 23 o.type 58 i0 Tryd.underlying23 hi none 0 0 (Nat.le_refl _) _ src
    refine wpList_plain hgd fun K hK => ?_
    unfold Oper.wp
    simp [execOp, ho, resolve, invoke, builtin, hs, hx, hrun, Result.andThen]
    exact hK _ _ (h none 0 0 w (fun h => absurd h (by simp)) (fun k x hx => by simp at hx) (Below.refl _ _))
  · obtain rfl := had (by omega)
    have own : w.ownsRow w.heap.size 58 3 (.slice none 0 0) 0 [] := ⟨rfl, .inl ⟨rfl, rfl⟩⟩
    refine wpList_append_own (P := Tryd.prog) w hgd s x 23 ho w.heap.size 58 i0 _ 3 16 Tryd.underlying23 hi hz0 hz1 hz2 rfl (by decide) (.slice none 0 0) 0 [] hs own ⟨g, off, none⟩ len1 cap1 (flz ms) hx (by rw [flz_len, hN]) hM.news (fun u hu => by
      obtain ⟨z, _, hz⟩ := List.mem_flatMap.1 hu
      simp [Mz.L] at hz
      rcases hz with rfl | rfl | rfl <;> rfl) (by unfold maxLen; omega) (by omega) (Nat.le_refl _) ?_
    intro v' w' h1 h2 _
    have e0 : 0 + len1 = len1 := by omega
    rw [e0, List.nil_append] at h1
    rcases h1.2 with ⟨_, h4⟩ | ⟨g', cap', cur, hv, hg, hh, hn', hm, hs', ht⟩
    · exact absurd h4 h0
    · subst hv
      exact h (some ⟨g', 0, none⟩) g' cap' w' (fun _ => rfl) (mz_own hN h1) ((Below.refl w.heap.size w).grown h2 (Nat.le_refl _) (fun j hj => by cases hj))
#print axioms two_some
#print axioms two_none
#print axioms wpList_append_mz0
end Go.Proofs.YtajllkkbgpijiaaDoor
namespace Go.Proofs.YtajllkkbgpijiaaDoor
open Go.RowKit

theorem layL_next {zs : List Int} {off fr cnt n : Nat} {ys : List Int} (hn : n < cnt) : layL zs off fr ys ((bq cnt).take (n + 1)) = orB (layL zs off fr ys ((bq cnt).take n)) (fr + n) (bitA zs (off + n)) := by
  rw [← bq_at cnt n hn, layL_app]
theorem layL_all {zs : List Int} {off fr cnt : Nat} {ys : List Int} : layL zs off fr ys ((bq cnt).take cnt) = layB zs off cnt fr ys := by
  rw [List.take_of_length_le (by rw [bq_len]; omega)]
  rfl

set_option linter.unusedSimpArgs false in
set_option maxHeartbeats 4000000 in
set_option maxRecDepth 100000 in
theorem rbit_any (a : Option Addr) (len cap : Nat) (zs : List Int) (k : Nat) (w : World) (hr : Row w a len zs) (hk : k / 8 < len) (hl : k ≤ 1000000) : Calls Tryd.prog 24 #[.slice a len cap, .int .i64 (k : Int)] w fun e w' => e = .returned (.int .u8 (bitA zs k)) ∧ w' = w := by
  obtain ⟨b, off, rfl, hc⟩ := hr.at_ (by omega)
  have c0 := hc (k / 8) hk
  obtain ⟨x, hx⟩ : ∃ x, Hid (x = zs.getD (k / 8) 0) := ⟨_, rfl⟩
  rw [← hx.out] at c0
  obtain ⟨y, hy⟩ : ∃ y, Hid (y = bits .and .u8 (x / 2 ^ (k % 8)) 1) := ⟨_, rfl⟩
  have hB : Hid (bitA zs k = y) := by show _ = _; unfold bitA; rw [← hx.out, hy.out]
  rw [hB.out]
  have ey : bits .and .u8 (x / 2 ^ (k % 8)) 1 = y := hy.out.symm
  have g1 : (k : Int) / 8 < (len : Int) := by omega
  have g2 : (0 : Int) ≤ (k : Int) / 8 := by omega
  have g3 : ((k : Int) / 8).toNat = k / 8 := by omega
  have g4 : ((k : Int) % 8).toNat = k % 8 := by omega
  have g5 : (0 : Int) ≤ (k : Int) % 8 := by omega
  clear hc hr
  go_enter Tryd.func24, Tryd.ntmps24
  go_wp2_with fail
  go_ret
  exact ⟨rfl, rfl⟩

set_option linter.unusedSimpArgs false in
set_option maxHeartbeats 4000000 in
set_option maxRecDepth 100000 in
theorem ownF_any (a : Option Addr) (len cap : Nat) (zs : List Int) (w : World) (hr : Row w a len zs) (hl : len ≤ 16777216) :
    Calls Tryd.prog 44 #[.slice a len cap] w fun e w' => ∃ a' c', e = .returned (.slice a' len c') ∧ Row w' a' len zs ∧ (∀ b off, a' = some ⟨b, off, none⟩ → w.heap.size ≤ b) ∧ Below w.heap.size w w' := by
  have HR : Hid (∀ W, Below w.heap.size w W → Row W a len zs) := fun W hb => hr.next hb
  clear hr
  go_enter Tryd.func44, Tryd.ntmps44
  go_wp2_with (at_builtin; refine wpList_append_nil rfl _ _ rfl rfl a len cap zs rfl (HR.out _ (by repeat (first | exact Below.refl _ _ | apply Below.drew | apply Below.al))) (by omega) ?_)
  intro a' c' w1 h1 h2 h3 h4 h5
  have S1 : Hid (Row w1 a' len zs ∧ ∀ b off, a' = some ⟨b, off, none⟩ → w.heap.size ≤ b) := ⟨h3, fun b off e => by have := (h4 b off e).1; omega⟩
  have B1 : Hid (Below w.heap.size w w1) := h5
  clear h1 h2 h3 h4 h5
  go_wp2_with fail
  go_ret
  exact ⟨a', c', rfl, S1.out.1, S1.out.2, B1.out⟩

/-- What Get answers of a place that is there. -/
def GtPost (zs : List Int) (w : World) (e : Ending) (w' : World) : Prop := ∃ a n c, e = .returned (.tuple #[.slice a n c, .bool true]) ∧ Row w' a n zs ∧ (∀ b off, a = some ⟨b, off, none⟩ → w.heap.size ≤ b) ∧ Below w.heap.size w w'
set_option linter.unusedSimpArgs false in
set_option maxHeartbeats 4000000 in
set_option maxRecDepth 100000 in
theorem rget_item (q : Nat) (v : Value) (nn : Int) (xs : List Xi) (base : Nat) (i s : Int) (w : World) (hq : w.heap[q]? = some (.cells #[v, .int .i64 nn] 70 (0, 0))) (hx : IsX w base v xs) (hl : xs.length ≤ 1000000) (zs : List Int) (hf : ∃ x ∈ xs, x.i = i ∧ x.s = s) (hv : ∀ x ∈ xs, x.i = i → x.s = s → Row w x.v x.lv zs ∧ x.lv ≤ 16777216) :
    Calls Tryd.prog 23 #[.pointer (some ⟨q, 0, none⟩), plV i s] w (GtPost zs w) := by
  have HAT : Hid (∀ W, Below w.heap.size w W → Calls Tryd.prog 43 #[.pointer (some ⟨q, 0, none⟩), plV i s] W fun e w' => e = .returned (.tuple #[.int .i64 (atX i s xs 0 100794368).1, .int .u32 (atX i s xs 0 100794368).2]) ∧ Below W.heap.size W w') := fun W hW => at_any q v nn xs base i s W (blk11 hW hq) (hx.next hW) hl
  have hit := atX_hit i s xs 0 100794368 hf
  obtain ⟨j, x, h1, h2, h3, h4⟩ := atX_found i s xs 0 100794368 (by decide) hit
  rw [hit, h1, Nat.zero_add] at HAT
  obtain ⟨vA, vC, rfl, hva⟩ := hx.form2
  have hj : j < xs.length := (List.getElem?_eq_some_iff.1 h2).1
  obtain ⟨g, rfl⟩ := hva (by omega)
  have HX : Hid (IsX w base (.slice (some ⟨g, 0, none⟩) xs.length vC) xs) := hx
  have HQ : Hid (w.heap[q]? = some (.cells #[.slice (some ⟨g, 0, none⟩) xs.length vC, .int .i64 nn] 70 (0, 0))) := hq
  obtain ⟨rv, lv⟩ := hv x (List.mem_of_getElem? h2) h3 h4
  have OW : Hid (∀ W, Below w.heap.size w W → Calls Tryd.prog 44 #[.slice x.v x.lv x.cv] W fun e w' => ∃ a' c', e = .returned (.slice a' x.lv c') ∧ Row w' a' x.lv zs ∧ (∀ b off, a' = some ⟨b, off, none⟩ → W.heap.size ≤ b) ∧ Below W.heap.size W w') := fun W hW => ownF_any x.v x.lv x.cv zs W (rv.next hW) lv
  have CV : Hid (∀ W, Below w.heap.size w W → W.cell? ⟨g, j * 11 + 10, none⟩ = some (.slice x.v x.lv x.cv)) := fun W hW => (HX.out.next hW).cells rfl h2 (j := 10) rfl
  have gj : (j : Int) < (xs.length : Int) := by omega
  have gj0 : (0 : Int) ≤ (j : Int) := by omega
  obtain ⟨NX, HNX⟩ : ∃ NX, Hid (NX = xs.length) := ⟨_, rfl⟩
  rw [← HNX.out] at HQ gj
  obtain ⟨xi, xs9, xnm, xt, xrt, xd, xld, xcd, xl, xll, xcl, xh, xlh, xch, xtg, xgr, xv, xlv, xcv⟩ := x
  dsimp only at OW CV
  clear hq hx hit h1 h2 h3 h4 hj rv lv hv hf hva hl HX
  go_enter Tryd.func23, Tryd.ntmps23
  go_wp2_with fail
  refine (HAT.out _ (by repeat (first | exact Below.refl _ _ | apply Below.drew | apply Below.al))).mono ?_
  rintro e w1 ⟨rfl, hb⟩
  have B1 : Hid (Below w.heap.size w w1) := Below.andThen (by repeat (first | exact Below.refl _ _ | apply Below.drew | apply Below.al)) hb
  have cq : w1.cell? ⟨q, 0, none⟩ = some (.slice (some ⟨g, 0, none⟩) NX vC) := by rw [cell_of_row _ _ 0 _ _ _ (blk11 B1.out HQ.out)]; rfl
  have cv := CV.out _ B1.out
  clear hb HAT
  go_wp2_with fail
  refine (OW.out _ B1.out).mono ?_
  rintro e w2 ⟨a', c', rfl, r2, f2, hb⟩
  have B2 := Below.andThen B1.out hb
  have sz := B1.out.size
  clear cq cv hb
  go_wp2_with fail
  go_ret2
  exact ⟨a', xlv, c', rfl, r2, fun b off e => by have := f2 b off e; omega, B2⟩

/-- Of a pair of dictionaries: what is there. -/
theorem rget_both {es : List Em} {w : World} {p m : Nat} {lst : Mp} {q : Nat} {v : Value} {xs : List Xi} (h : BothD es w p m lst q v xs) (i s : Int) (u : Value) (hf : lookP lst i s = some u) :
    Calls Tryd.prog 23 #[.pointer (some ⟨q, 0, none⟩), plV i s] w (GtPost (valE es i s) w) := by
  obtain ⟨b, hx⟩ := h.hx
  obtain ⟨lo, hB⟩ := h.hb
  obtain ⟨e, he, rfl, rfl, hv, -⟩ := look_rel (fun _ _ => True) es lst i s u hB.1 (fun k e he => by obtain ⟨a1, c1, a2, c2, a3, c3, v, lv, cv, g, _⟩ := hB.2 k e he; exact ⟨_, g, trivial⟩) hf
  have heS : e ∈ (docG [] es).2 := (h.hi e).2 he
  obtain ⟨k, hk, hke⟩ := List.getElem_of_mem heS
  obtain ⟨xv, xn, xc, hxk, hxv⟩ := h.hd.2 k e (by rw [List.getElem?_eq_getElem hk, hke])
  have hn := h.hn
  have hxl := h.hl
  refine rget_item q v 0 xs b e.i e.s w h.hq hx (by omega) _ ⟨_, List.mem_of_getElem? hxk, rfl, rfl⟩ (fun x hxm h1 h2 => ?_)
  obtain ⟨j, hj, hjx⟩ := List.getElem_of_mem hxm
  obtain ⟨e2, he2⟩ : ∃ e2, (docG [] es).2[j]? = some e2 := ⟨_, List.getElem?_eq_getElem (by rw [← h.hd.1]; exact hj)⟩
  obtain ⟨yv, yn, yc, hyk, hyv⟩ := h.hd.2 j e2 he2
  rw [List.getElem?_eq_getElem hj, hjx] at hyk
  cases hyk
  have : e2 = e := sort_one h.hs (List.mem_of_getElem? he2) heS h1 h2
  subst this
  rw [hv]
  refine ⟨hyv.row, ?_⟩
  show yn ≤ _
  rw [← hyv.row.size]
  have hz := h.hz e2 he
  unfold firstL
  split
  · exact hz
  · have := Ty.Pl.size_bd e2.t
    unfold Ty.zeros
    rw [List.length_replicate]
    omega

theorem Kp.cell {S : List Nat} {a b : World} (h : Kp S a b) {p : Addr} {v : Value} (hc : a.cell? p = some v) (hp : p.block ∉ S) : b.cell? p = some v := by
  have hl : p.block < a.heap.size := block_lt_of_cell hc
  have hb := h.block p.block hl hp
  rw [← hc]
  simp only [World.cell?, hb]
theorem Row.apart {W W' : World} {a : Option Addr} {len : Nat} {zs : List Int} {g : Nat} (h : Row W a len zs) (hk : Kp [g] W W') (hn : ∀ b o, a = some ⟨b, o, none⟩ → b ≠ g) : Row W' a len zs where
  size := h.size
  oct := h.oct
  at_ := fun hp => by
    obtain ⟨b, off, e, hc⟩ := h.at_ hp
    exact ⟨b, off, e, fun i hi => hk.cell (hc i hi) (by simpa using hn b off e)⟩

set_option linter.unusedSimpArgs false in
set_option maxHeartbeats 4000000 in
set_option maxRecDepth 100000 in
theorem rpack_O (mp : Value) (ad : Option Addr) (gm off N cap : Nat) (ms : List Mq) (val : Int → Int → List Int) (w : World) (hN : ms.length = N) (had : 0 < N → ad = some ⟨gm, off, none⟩) (h64 : N ≤ 64) (hM : MsO w gm off ms) (hC : Calls Tryd.prog 21 #[mp, .slice ad N cap, .bool true] w fun e w' => e = .returned (.int .u32 0) ∧ Below w.heap.size w w')
    (hG : ∀ W, Below w.heap.size w W → ∀ x ∈ ms, Calls Tryd.prog 23 #[mp, plV x.i x.s] W (GtPost (val x.i x.s) W)) (hV : ∀ x ∈ ms, x.b ≤ 8 * (val x.i x.s).length) (hs : sumB ms N ≤ 64) :
    Calls Tryd.prog 8 #[mp, .slice ad N cap] w fun e w' => ∃ g, e = .returned (.tuple #[.slice (some ⟨g, 0, none⟩) ((sumB ms N + 7) / 8) ((sumB ms N + 7) / 8), .int .u32 0]) ∧ w.heap.size ≤ g ∧ w'.heap[g]? = some (.cells ((pk ms val ((sumB ms N + 7) / 8) N).map (Value.int .u8)).toArray 5 (0, 0)) ∧ Below w.heap.size w w' := by
  obtain ⟨R, hR⟩ : ∃ R, Hid (R = (sumB ms N + 7) / 8) := ⟨_, rfl⟩
  rw [← hR.out]
  have HC : Hid (Calls Tryd.prog 21 #[mp, .slice ad N cap, .bool true] w fun e w' => e = .returned (.int .u32 0) ∧ Below w.heap.size w w') := hC
  have HS : Hid (∀ W, Below w.heap.size w W → Calls Tryd.prog 22 #[.slice ad N cap] W fun e w' => e = .returned (.int .i64 (R : Int)) ∧ Below W.heap.size W w') := fun W hb => by rw [hR.out]; exact rsize_O ad gm off N cap had ms W hN h64 (hM.next hb) hs
  have HG0 : Hid (∀ W, Below w.heap.size w W → ∀ x ∈ ms, Calls Tryd.prog 23 #[mp, plV x.i x.s] W (GtPost (val x.i x.s) W)) := hG
  have HV : Hid (∀ x ∈ ms, x.b ≤ 8 * (val x.i x.s).length) := hV
  have HAD : Hid (0 < N → ad = some ⟨gm, off, none⟩) := had
  have HM : Hid (MsO w gm off ms) := hM
  have hR8 : R ≤ 8 := by have := hR.out; omega
  have MK := mkZ R (by omega)
  clear hM hC hG hV had
  go_enter Tryd.func8, Tryd.ntmps8
  go_wp2_with fail
  refine HC.out.mono ?_
  rintro e w1 ⟨rfl, hb1⟩
  have B1 : Hid (Below w.heap.size w w1) := hb1
  clear hb1
  go_wp2_with fail
  refine (HS.out _ B1.out).mono ?_
  rintro e w2 ⟨rfl, hb2⟩
  have B2 : Hid (Below w.heap.size w w2) := Below.andThen B1.out hb2
  clear hb2
  go_wp2_with fail
  obtain ⟨g, hg⟩ : ∃ g, Hid (g = w2.heap.size) := ⟨_, rfl⟩
  rw [← hg.out]
  go_loopw [8, 9] (fun ev iv wr => ∃ k K : Nat, k ≤ N ∧ iv = .int .i64 (k : Int) ∧ ev = .int .i64 (K : Int) ∧ Hid (K = sumB ms k) ∧ Hid (wr.heap[g]? = some (.cells ((pk ms val R k).map (Value.int .u8)).toArray 5 (0, 0)) ∧ Below w.heap.size w wr)) (fun _ iv _ => N - (intOf iv).toNat)
  case atStart => exact ⟨0, 0, Nat.zero_le _, rfl, rfl, rfl, by rw [hg.out]; exact heap_new _ _, Below.al B2.out _⟩
  case round =>
    obtain ⟨k, sk, hk, rfl, rfl, hsk, HR⟩ := hrel
    by_cases hkN : k < N
    · obtain rfl := HAD.out (by omega)
      have gk : (k : Int) < (N : Int) := by omega
      have gk0 : (0 : Int) ≤ (k : Int) := by omega
      obtain ⟨x, hx⟩ : ∃ x, ms[k]? = some x := ⟨_, List.getElem?_eq_getElem (by omega)⟩
      obtain ⟨c0, c1, -⟩ := (HM.out.next HR.out.2) k x hx
      have SS : Hid (sumB ms (k + 1) = sk + x.b) := by show _ = _; rw [hsk.out]; exact sumB_succ hx
      have SL : Hid (sumB ms (k + 1) ≤ sumB ms N) := sumB_le ms (by omega)
      have PS : Hid (pk ms val R (k + 1) = layB (val x.i x.s) 0 x.b sk (pk ms val R k)) := by show _ = _; rw [hsk.out]; exact pk_succ hx
      have HX : Hid (x ∈ ms) := List.mem_of_getElem? hx
      have C2 : Hid (∀ W, Below w.heap.size w W → W.cell? ⟨gm, off + k * 3 + 2, none⟩ = some (.int .i64 (x.b : Int))) := fun W hW => ((HM.out.next hW) k x hx).2.2
      have PL : Hid ((pk ms val R k).length = R) := pk_len ms val R k
      have XB : Hid (x.b ≤ 8 * (val x.i x.s).length) := HV.out x HX.out
      obtain ⟨P0, hP0⟩ : ∃ P0, Hid (P0 = pk ms val R k) := ⟨_, rfl⟩
      obtain ⟨zs, hzs⟩ : ∃ zs, Hid (zs = val x.i x.s) := ⟨_, rfl⟩
      have GC := HG0.out _ HR.out.2 x HX.out
      rw [← hP0.out] at HR PS PL
      rw [← hzs.out] at PS XB GC
      have xb64 : x.b ≤ 64 := by have := SS.out; have := SL.out; omega
      have kb : sk + x.b ≤ 8 * R := by have := SS.out; have := SL.out; have := hR.out; omega
      have wk : IntKind.i64.wrap ((k : Int) + 1) = ((k + 1 : Nat) : Int) := by rw [IntKind.wrap_i64]; omega
      clear hx hzs
      go_wp2_with fail
      refine GC.mono ?_
      rintro e w3 ⟨va, vn, vc, rfl, rv, fv, hb⟩
      have B3 : Hid (Below w.heap.size w w3) := Below.andThen HR.out.2 hb
      have G3 : Hid (w3.heap[g]? = some (.cells (P0.map (Value.int .u8)).toArray 5 (0, 0))) := blk11 hb HR.out.1
      have R3 : Hid (Row w3 va vn zs) := rv
      have NE : Hid (∀ b o, va = some ⟨b, o, none⟩ → b ≠ g) := fun b o e => by have := fv b o e; have := lt_of_heap HR.out.1; omega
      have VN : Hid (zs.length = vn) := rv.size
      clear c0 c1 GC hb rv fv HR
      go_wp2_with fail
      obtain ⟨wo, rfl⟩ : ∃ z, z = wr := ⟨_, rfl⟩
      go_loopw [8, 12] (fun ev iv wr => ∃ n K : Nat, n ≤ x.b ∧ iv = .int .i64 (n : Int) ∧ ev = .int .i64 (K : Int) ∧ Hid (K = sk + n) ∧ Hid (wr.heap[g]? = some (.cells ((layL zs 0 sk P0 ((bq x.b).take n)).map (Value.int .u8)).toArray 5 (0, 0)) ∧ Below w.heap.size w wr ∧ Row wr va vn zs)) (fun _ iv _ => x.b - (intOf iv).toNat)
      case atStart => exact ⟨0, sk, Nat.zero_le _, rfl, rfl, rfl, by simpa [layL] using G3.out, B3.out, R3.out⟩
      case round =>
        obtain ⟨n, K, hn, rfl, rfl, hK, HL⟩ := hrel
        have c2 := C2.out _ HL.out.2.1
        by_cases hnb : n < x.b
        · have gn : (n : Int) < (x.b : Int) := by omega
          obtain ⟨ys, hys⟩ : ∃ ys, Hid (ys = layL zs 0 sk P0 ((bq x.b).take n)) := ⟨_, rfl⟩
          have yl : ys.length = R := by rw [hys.out, layL_len]; exact PL.out
          rw [← hys.out] at HL
          have YN : Hid (layL zs 0 sk P0 ((bq x.b).take (n + 1)) = orB ys K (bitA zs n)) := by show _ = _; rw [layL_next hnb, hK.out, hys.out, Nat.zero_add]
          have HGr : Hid (wr.heap[g]? = some (.cells (ys.map (Value.int .u8)).toArray 5 (0, 0))) := HL.out.1
          have HB : Hid (Below w.heap.size w wr) := HL.out.2.1
          have HRw : Hid (Row wr va vn zs) := HL.out.2.2
          have kR : K < 8 * R := by have := hK.out; omega
          obtain ⟨y, hy⟩ : ∃ y, Hid (y = bitA zs n) := ⟨_, rfl⟩
          obtain ⟨q, hq⟩ : ∃ q, Hid (q = ys.getD (K / 8) 0) := ⟨_, rfl⟩
          obtain ⟨sh, hsh⟩ : ∃ sh, Hid (sh = IntKind.u8.wrap (y * 2 ^ (K % 8))) := ⟨_, rfl⟩
          obtain ⟨rr, hrr⟩ : ∃ rr, Hid (rr = bits .or .u8 q sh) := ⟨_, rfl⟩
          have BT : Hid (∀ W, Row W va vn zs → Calls Tryd.prog 24 #[.slice va vn vc, .int .i64 (n : Int)] W fun e w' => e = .returned (.int .u8 y) ∧ w' = W) := fun W hW => by rw [hy.out]; exact rbit_any va vn vc zs n W hW (by have := XB.out; have := VN.out; omega) (by omega)
          have CG : Hid (∀ z : World, z.heap[g]? = some (.cells (ys.map (Value.int .u8)).toArray 5 (0, 0)) → z.cell? ⟨g, K / 8, none⟩ = some (.int .u8 q)) := fun z hz => by
            rw [cell_of_row z _ _ _ _ _ hz, hq.out]
            simp [List.getD_eq_getElem?_getD, show K / 8 < ys.length from by omega]
          have YS : Hid ((ys.map (Value.int .u8)).toArray.setIfInBounds (K / 8) (.int .u8 rr) = ((layL zs 0 sk P0 ((bq x.b).take (n + 1))).map (Value.int .u8)).toArray) := by
            show _ = _
            rw [YN.out]
            unfold orB
            rw [hrr.out, hq.out, hsh.out, hy.out, List.map_set]
            simp
          have wn : IntKind.i64.wrap ((n : Int) + 1) = ((n + 1 : Nat) : Int) := by rw [IntKind.wrap_i64]; omega
          have wK : IntKind.i64.wrap ((K : Int) + 1) = ((K + 1 : Nat) : Int) := by rw [IntKind.wrap_i64]; omega
          clear hys HL
          go_wp2_with fail
          refine wp_region_held_drew (S := fun x1 => Kp [g] wr x1) (by kernel_rfl) (Kp.drew (Kp.refl _ _)) (fun hHeld => ?_)
          refine tk 0 (.slice (some ⟨g, 0, none⟩) R R) rfl (.inl ⟨by rfl, ?_⟩) ?_
          · intro w9 hSw
            try dsimp only at hSw
            go_simp
            all_goals try decide
            all_goals try assumption
            all_goals try omega
          try simp only [Act.put, gA, gS, gZ, sA, sZ, sS]
          refine tk 1 (.int .i64 (K : Int)) rfl (.inl ⟨by rfl, ?_⟩) ?_
          · intro w9 hSw
            try dsimp only at hSw
            go_simp
            all_goals try decide
            all_goals try assumption
            all_goals try omega
          try simp only [Act.put, gA, gS, gZ, sA, sZ, sS]
          refine tk 2 (.int .i64 ((K : Int) / 8)) rfl (.inl ⟨by rfl, ?_⟩) ?_
          · intro w9 hSw
            try dsimp only at hSw
            have e8 : (K : Int).tdiv 8 = (K : Int) / 8 := Int.tdiv_eq_ediv_of_nonneg (by omega)
            have e9 : IntKind.i64.wrap ((K : Int) / 8) = (K : Int) / 8 := by rw [IntKind.wrap_i64]; omega
            go_simp
            all_goals try omega
          try simp only [Act.put, gA, gS, gZ, sA, sZ, sS]
          refine tk 3 (.slice (some ⟨g, 0, none⟩) R R) rfl (.inl ⟨by rfl, ?_⟩) ?_
          · intro w9 hSw
            try dsimp only at hSw
            go_simp
            all_goals try decide
            all_goals try assumption
            all_goals try omega
          try simp only [Act.put, gA, gS, gZ, sA, sZ, sS]
          refine tk 4 (.int .i64 (K : Int)) rfl (.inl ⟨by rfl, ?_⟩) ?_
          · intro w9 hSw
            try dsimp only at hSw
            go_simp
            all_goals try decide
            all_goals try assumption
            all_goals try omega
          try simp only [Act.put, gA, gS, gZ, sA, sZ, sS]
          refine tk 5 (.int .i64 ((K : Int) / 8)) rfl (.inl ⟨by rfl, ?_⟩) ?_
          · intro w9 hSw
            try dsimp only at hSw
            have e8 : (K : Int).tdiv 8 = (K : Int) / 8 := Int.tdiv_eq_ediv_of_nonneg (by omega)
            have e9 : IntKind.i64.wrap ((K : Int) / 8) = (K : Int) / 8 := by rw [IntKind.wrap_i64]; omega
            go_simp
            all_goals try omega
          try simp only [Act.put, gA, gS, gZ, sA, sZ, sS]
          refine tk 6 (.pointer (some ⟨g, K / 8, none⟩)) rfl (.inl ⟨by rfl, ?_⟩) ?_
          · intro w9 hSw
            try dsimp only at hSw
            have q1 : (K : Int) / 8 < (R : Int) := by omega
            have q0 : (0 : Int) ≤ (K : Int) / 8 := by omega
            have q2 : ((K : Int) / 8).toNat = K / 8 := by omega
            go_simp
            all_goals try omega
          try simp only [Act.put, gA, gS, gZ, sA, sZ, sS]
          refine tk 8 (.slice va vn vc) rfl (.inl ⟨by rfl, ?_⟩) ?_
          · intro w9 hSw
            try dsimp only at hSw
            go_simp
            all_goals try decide
            all_goals try assumption
            all_goals try omega
          try simp only [Act.put, gA, gS, gZ, sA, sZ, sS]
          refine tk 9 (.int .i64 (n : Int)) rfl (.inl ⟨by rfl, ?_⟩) ?_
          · intro w9 hSw
            try dsimp only at hSw
            go_simp
            all_goals try decide
            all_goals try assumption
            all_goals try omega
          try simp only [Act.put, gA, gS, gZ, sA, sZ, sS]
          refine tk 11 (.int .i64 (K : Int)) rfl (.inl ⟨by rfl, ?_⟩) ?_
          · intro w9 hSw
            try dsimp only at hSw
            go_simp
            all_goals try decide
            all_goals try assumption
            all_goals try omega
          try simp only [Act.put, gA, gS, gZ, sA, sZ, sS]
          refine tk 12 (.int .i64 ((K : Int) % 8)) rfl (.inl ⟨by rfl, ?_⟩) ?_
          · intro w9 hSw
            try dsimp only at hSw
            go_simp
            all_goals exact Int.tmod_eq_emod_of_nonneg (by omega)
          try simp only [Act.put, gA, gS, gZ, sA, sZ, sS]
          refine wpAnyH_ready (rs := [7, 10]) (by kernel_rfl) (by simp) ?_
          refine AllReadyH.cons rfl (fun K' hK => ?_) (AllReadyH.cons rfl (fun K' hK => ?_) AllReadyH.nil)
          · rw [if_pos (by rfl)]
            simp only [gA, gS, gZ]
            have c0 := CG.out wr.drew HGr.out
            go_wp2_with fail
            refine hK.out _ _ (hHeld) (fun hHeld => ?_)
            clear hK K'
            try simp only [Act.put, gA, gS, gZ, sA, sZ, sS]
            refine wpAnyH_ready (rs := [10]) (by kernel_rfl) (by simp) ?_
            refine AllReadyH.cons rfl (fun K' hK => ?_) AllReadyH.nil
            rw [if_pos (by rfl)]
            simp only [gA, gS, gZ]
            go_wp2_with fail
            refine (BT.out _ (HRw.out.next (Below.drew (Below.refl _ _)))).mono ?_
            rintro e wb ⟨rfl, rfl⟩
            try go_wp2_with fail
            refine hK.out _ _ (hHeld) (fun hHeld => ?_)
            clear hK K'
            try simp only [Act.put, gA, gS, gZ, sA, sZ, sS]
            refine tk 13 (.int .u8 sh) rfl (.inl ⟨by rfl, ?_⟩) ?_
            · intro w9 hSw
              try dsimp only at hSw
              have s1 : (0 : Int) ≤ (K : Int) % 8 := by omega
              have s2 : ((K : Int) % 8).toNat = K % 8 := by omega
              have s3 : ¬ ((K : Int) % 8 < 0) := by omega
              go_simp
              all_goals exact hsh.out.symm
            try simp only [Act.put, gA, gS, gZ, sA, sZ, sS]
            refine tk 14 (.int .u8 rr) rfl (.inl ⟨by rfl, ?_⟩) ?_
            · intro w9 hSw
              try dsimp only at hSw
              have er : bits .or .u8 q sh = rr := hrr.out.symm
              go_simp
              all_goals try assumption
            try simp only [Act.put, gA, gS, gZ, sA, sZ, sS]
            refine tk 15 (.pointer (some ⟨g, K / 8, none⟩)) rfl (.inl ⟨by rfl, ?_⟩) ?_
            · intro w9 hSw
              try dsimp only at hSw
              have q1 : (K : Int) / 8 < (R : Int) := by omega
              have q0 : (0 : Int) ≤ (K : Int) / 8 := by omega
              have q2 : ((K : Int) / 8).toNat = K / 8 := by omega
              go_simp
              all_goals try omega
            try simp only [Act.put, gA, gS, gZ, sA, sZ, sS]
            refine wpAnyH_ready (rs := [16]) (by kernel_rfl) (by simp) ?_
            refine AllReadyH.cons rfl (fun K' hK => ?_) AllReadyH.nil
            rw [if_pos (by rfl)]
            simp only [gA, gS, gZ]
            have c0 := CG.out wr.drew HGr.out
            have f0 : wr.drew.frozen? ⟨g, K / 8, none⟩ = false := frozen_of_row _ _ _ _ _ HGr.out
            go_wp2_with fail
            refine hK.out _ _ (hHeld.set _ _ (.inl (by simp))) (fun hHeld => ?_)
            clear hK K'
            try simp only [Act.put, gA, gS, gZ, sA, sZ, sS]
            refine wpAnyH_done (by kernel_rfl) ?_ _
            have k9 := hHeld
            have G9 : (wr.drew.setCell ⟨g, K / 8, none⟩ (.int .u8 rr)).heap[g]? = some (.cells ((layL zs 0 sk P0 ((bq x.b).take (n + 1))).map (Value.int .u8)).toArray 5 (0, 0)) := by rw [← YS.out]; exact heap_setCell_same _ _ _ _ _ _ HGr.out
            have B9 : Below w.heap.size w (wr.drew.setCell ⟨g, K / 8, none⟩ (.int .u8 rr)) := Below.setCell (Below.drew HB.out) (by have := hg.out; have := B2.out.size; simp; omega) _
            have R9 : Row (wr.drew.setCell ⟨g, K / 8, none⟩ (.int .u8 rr)) va vn zs := HRw.out.apart k9 NE.out
            go_wp2_with fail
            exact ⟨⟨n + 1, K + 1, by omega, by go_num, by go_num, by show _ = _; have := hK.out; omega, G9, B9, R9⟩, by simp [intOf]; omega⟩
          · rw [if_pos (by rfl)]
            simp only [gA, gS, gZ]
            go_wp2_with fail
            refine (BT.out _ (HRw.out.next (Below.drew (Below.refl _ _)))).mono ?_
            rintro e wb ⟨rfl, rfl⟩
            try go_wp2_with fail
            refine hK.out _ _ (hHeld) (fun hHeld => ?_)
            clear hK K'
            try simp only [Act.put, gA, gS, gZ, sA, sZ, sS]
            refine tk 13 (.int .u8 sh) rfl (.inl ⟨by rfl, ?_⟩) ?_
            · intro w9 hSw
              try dsimp only at hSw
              have s1 : (0 : Int) ≤ (K : Int) % 8 := by omega
              have s2 : ((K : Int) % 8).toNat = K % 8 := by omega
              have s3 : ¬ ((K : Int) % 8 < 0) := by omega
              go_simp
              all_goals exact hsh.out.symm
            try simp only [Act.put, gA, gS, gZ, sA, sZ, sS]
            refine wpAnyH_ready (rs := [7]) (by kernel_rfl) (by simp) ?_
            refine AllReadyH.cons rfl (fun K' hK => ?_) AllReadyH.nil
            rw [if_pos (by rfl)]
            simp only [gA, gS, gZ]
            have c0 := CG.out wr.drew HGr.out
            go_wp2_with fail
            refine hK.out _ _ (hHeld) (fun hHeld => ?_)
            clear hK K'
            try simp only [Act.put, gA, gS, gZ, sA, sZ, sS]
            refine tk 14 (.int .u8 rr) rfl (.inl ⟨by rfl, ?_⟩) ?_
            · intro w9 hSw
              try dsimp only at hSw
              have er : bits .or .u8 q sh = rr := hrr.out.symm
              go_simp
              all_goals try assumption
            try simp only [Act.put, gA, gS, gZ, sA, sZ, sS]
            refine tk 15 (.pointer (some ⟨g, K / 8, none⟩)) rfl (.inl ⟨by rfl, ?_⟩) ?_
            · intro w9 hSw
              try dsimp only at hSw
              have q1 : (K : Int) / 8 < (R : Int) := by omega
              have q0 : (0 : Int) ≤ (K : Int) / 8 := by omega
              have q2 : ((K : Int) / 8).toNat = K / 8 := by omega
              go_simp
              all_goals try omega
            try simp only [Act.put, gA, gS, gZ, sA, sZ, sS]
            refine wpAnyH_ready (rs := [16]) (by kernel_rfl) (by simp) ?_
            refine AllReadyH.cons rfl (fun K' hK => ?_) AllReadyH.nil
            rw [if_pos (by rfl)]
            simp only [gA, gS, gZ]
            have c0 := CG.out wr.drew HGr.out
            have f0 : wr.drew.frozen? ⟨g, K / 8, none⟩ = false := frozen_of_row _ _ _ _ _ HGr.out
            go_wp2_with fail
            refine hK.out _ _ (hHeld.set _ _ (.inl (by simp))) (fun hHeld => ?_)
            clear hK K'
            try simp only [Act.put, gA, gS, gZ, sA, sZ, sS]
            refine wpAnyH_done (by kernel_rfl) ?_ _
            have k9 := hHeld
            have G9 : (wr.drew.setCell ⟨g, K / 8, none⟩ (.int .u8 rr)).heap[g]? = some (.cells ((layL zs 0 sk P0 ((bq x.b).take (n + 1))).map (Value.int .u8)).toArray 5 (0, 0)) := by rw [← YS.out]; exact heap_setCell_same _ _ _ _ _ _ HGr.out
            have B9 : Below w.heap.size w (wr.drew.setCell ⟨g, K / 8, none⟩ (.int .u8 rr)) := Below.setCell (Below.drew HB.out) (by have := hg.out; have := B2.out.size; simp; omega) _
            have R9 : Row (wr.drew.setCell ⟨g, K / 8, none⟩ (.int .u8 rr)) va vn zs := HRw.out.apart k9 NE.out
            go_wp2_with fail
            exact ⟨⟨n + 1, K + 1, by omega, by go_num, by go_num, by show _ = _; have := hK.out; omega, G9, B9, R9⟩, by simp [intOf]; omega⟩
        · obtain rfl : n = x.b := by omega
          have gn : ¬ ((x.b : Int) < (x.b : Int)) := by omega
          go_wp2_with fail
          exact ⟨⟨k + 1, K, by omega, by go_num, rfl, by show _ = _; rw [SS.out, hK.out], by rw [PS.out, ← layL_all]; exact HL.out.1, HL.out.2.1⟩, by simp [intOf]; omega⟩
    · obtain rfl : k = N := by omega
      go_wp2_with fail
      go_ret2
      exact ⟨g, rfl, by have := hg.out; have := B2.out.size; omega, HR.out.1, HR.out.2⟩
#print axioms rpack_O
end Go.Proofs.YtajllkkbgpijiaaDoor
namespace Go.Proofs.YtajllkkbgpijiaaDoor
open Go.RowKit

/-- What both Packs answer. -/
def PkPost (code : Int) (row : List Int) (w : World) (e : Ending) (w' : World) : Prop :=
  ∃ a, e = .returned (.tuple #[.slice a row.length row.length, .int .u32 code]) ∧ (0 < row.length → ∃ g, a = some ⟨g, 0, none⟩ ∧ w.heap.size ≤ g ∧ w'.heap[g]? = some (.cells (row.map (Value.int .u8)).toArray 5 (0, 0))) ∧ Below w.heap.size w w'
theorem row_cells {w : World} {g : Nat} {row : List Int} (ho : Oct row) (h : w.heap[g]? = some (.cells (row.map (Value.int .u8)).toArray 5 (0, 0))) : Row w (some ⟨g, 0, none⟩) row.length row := ⟨rfl, ho, fun _ => ⟨g, 0, rfl, fun i hi => by
  rw [Nat.zero_add, cell_of_row w g i _ _ _ h, List.getElem?_toArray, List.getElem?_map, List.getD_eq_getElem?_getD, List.getElem?_eq_getElem hi]
  rfl⟩⟩
/-- Both pack the same. -/
structure PkTwo (w : World) (ms : List Mz) (dp mp : Value) (code : Int) (row : List Int) : Prop where
  o : Oct row
  l : row.length ≤ 8
  p : ∀ W, Below w.heap.size w W → ∀ (a : Option Addr) (G off cap : Nat), (0 < ms.length → a = some ⟨G, off, none⟩) → MzAt W G off ms → Calls Tryd.prog 7 #[dp, .slice a ms.length cap] W (PkPost code row W)
  r : ∀ W, Below w.heap.size w W → ∀ (a : Option Addr) (G off cap : Nat), (0 < ms.length → a = some ⟨G, off, none⟩) → MzAt W G off ms → Calls Tryd.prog 8 #[mp, .slice a ms.length cap] W (PkPost code row W)

theorem rpack_fail (pv mv : Value) (code : Int) (hc : code ≠ 0) (w : World) (HC : Calls Tryd.prog 21 #[pv, mv, .bool true] w fun e w' => e = .returned (.int .u32 code) ∧ Below w.heap.size w w') :
    Calls Tryd.prog 8 #[pv, mv] w fun e w' => e = .returned (.tuple #[.slice none 0 0, .int .u32 code]) ∧ Below w.heap.size w w' := by
  have HCC : Hid (Calls Tryd.prog 21 #[pv, mv, .bool true] w fun e w' => e = .returned (.int .u32 code) ∧ Below w.heap.size w w') := HC
  clear HC
  go_enter Tryd.func8, Tryd.ntmps8
  go_wp2_with fail
  refine HCC.out.mono ?_
  rintro e w1 ⟨rfl, hb1⟩
  go_wp2_with fail
  go_ret2
  exact ⟨rfl, hb1⟩
set_option linter.unusedSimpArgs false in
set_option maxHeartbeats 4000000 in
set_option maxRecDepth 100000 in
theorem pack_zero (pv : Value) (a : Option Addr) (cap : Nat) (w : World) (HC : Calls Tryd.prog 16 #[pv, .slice a 0 cap, .bool true] w fun e w' => e = .returned (.int .u32 0) ∧ Below w.heap.size w w') : Calls Tryd.prog 7 #[pv, .slice a 0 cap] w fun e w' => (∃ g, e = .returned (.tuple #[.slice (some ⟨g, 0, none⟩) 0 0, .int .u32 0])) ∧ Below w.heap.size w w' := by
  have MK := mkZ 0 (by decide)
  have MK0 : ∀ W, (Instr.makeSlice 30 (.int .i64 0) (.int .i64 0)).run Tryd.prog W = .ok (.slice (some ⟨W.heap.size, 0, none⟩) 0 0) (W.alloc (.cells (zC 0) 5)) := MK
  clear MK
  have HCC : Hid (Calls Tryd.prog 16 #[pv, .slice a 0 cap, .bool true] w fun e w' => e = .returned (.int .u32 0) ∧ Below w.heap.size w w') := HC
  have SZ : ∀ W, Calls Tryd.prog 17 #[.slice a 0 cap] W fun e w' => e = .returned (.int .i64 0) ∧ Below W.heap.size W w' := fun W => size_O a 0 0 0 cap (fun h => absurd h (by decide)) [] W rfl (by decide) (fun k x hx => by cases hx) (by decide)
  clear HC
  go_enter Tryd.func7, Tryd.ntmps7
  go_wp2_with fail
  refine HCC.out.mono ?_
  rintro e w1 ⟨rfl, b1⟩
  go_wp2_with fail
  refine (SZ _).mono ?_
  rintro e w2 ⟨rfl, b2⟩
  have B2 := Below.andThen b1 b2
  clear b1 b2 SZ HCC
  go_wp2_with fail
  obtain ⟨W0, HW0⟩ : ∃ W0, Hid (W0 = w2.alloc (.cells (zC 0) 5)) := ⟨_, rfl⟩
  have BW : Hid (Below w.heap.size w W0) := by rw [HW0.out]; exact Below.al B2 _
  go_loopw [8, 24] (fun ev iv wr => iv = .int .i64 0 ∧ ev = .int .i64 0 ∧ wr = W0) (fun _ _ _ => 0)
  case atStart => exact ⟨rfl, rfl, HW0.out.symm⟩
  case round =>
    obtain ⟨rfl, rfl, rfl⟩ := hrel
    go_wp2_with fail
    go_ret2
    exact ⟨⟨_, rfl⟩, BW.out⟩

theorem pk_fails {W : World} {e : Ending} {w' : World} {code : Int} (h : e = .returned (.tuple #[.slice none 0 0, .int .u32 code]) ∧ Below W.heap.size W w') : PkPost code [] W e w' := ⟨none, h.1, fun h => absurd h (by decide), h.2⟩
theorem pk_none (w : World) {ms : List Mz} (hi : ∀ x ∈ ms, 0 ≤ x.i ∧ x.i < 65536) : PkTwo w ms (.pointer none) (.pointer none) (if 64 < ms.length then 100925506 else chkZ (cfN true) ms 0) [] := by
  have TW := two_none w hi
  by_cases h : (if 64 < ms.length then 100925506 else chkZ (cfN true) ms 0) = (0 : Int)
  · have hms : ms = [] := by
      by_cases h6 : 64 < ms.length
      · rw [if_pos h6] at h; cases h
      · rw [if_neg h6] at h
        cases ms with
        | nil => rfl
        | cons x l =>
          have := (chkZ_zero _ _ 0 h (by decide)).1 x List.mem_cons_self
          unfold cfN at this
          split at this <;> cases this
    subst hms
    refine ⟨(by intro x hx; cases hx), by decide, fun W hW a G off cap had hM => ?_, fun W hW a G off cap had hM => ?_⟩
    · have := TW.p W hW true a G off cap had hM
      exact (pack_zero _ a cap W this).mono fun e w' ⟨⟨g, he⟩, hb⟩ => ⟨_, he, fun h => absurd h (by decide), hb⟩
    · have := TW.r W hW true a G off cap had hM
      refine (rpack_O (.pointer none) a G off 0 cap [] (fun _ _ => []) W rfl (fun h => absurd h (by decide)) (by decide) (fun k x hx => by cases hx) this (fun _ _ x hx => by cases hx) (fun x hx => by cases hx) (by decide)).mono ?_
      rintro e w' ⟨g, he, -, -, hb⟩
      exact ⟨_, he, fun h => absurd h (by decide), hb⟩
  · refine ⟨(by intro x hx; cases hx), by decide, fun W hW a G off cap had hM => ?_, fun W hW a G off cap had hM => ?_⟩
    · exact (pack_fail _ _ _ h W (TW.p W hW true a G off cap had hM)).mono fun e w' hh => pk_fails hh
    · exact (rpack_fail _ _ _ h W (TW.r W hW true a G off cap had hM)).mono fun e w' hh => pk_fails hh
theorem pk_some {es : List Em} {w : World} {p m : Nat} {lst : Mp} {q : Nat} {v : Value} {xs : List Xi} (h : BothD es w p m lst q v xs) {ms : List Mz} (hi : ∀ x ∈ ms, 0 ≤ x.i ∧ x.i < 65536) :
    ∃ row, PkTwo w ms (.pointer (some ⟨p, 0, none⟩)) (.pointer (some ⟨q, 0, none⟩)) (if 64 < ms.length then 100925506 else chkZ (cfD lst true) ms 0) row := by
  have TW := two_some h hi
  by_cases hc : (if 64 < ms.length then 100925506 else chkZ (cfD lst true) ms 0) = (0 : Int)
  · obtain ⟨z1, z2, z3⟩ := TW.z true hc
    have hz : ∀ x ∈ ms, cfD lst true x = 0 := by
      rw [if_neg (by omega)] at hc
      exact (chkZ_zero _ ms 0 hc (by decide)).1
    have hva : ∀ x ∈ ms, VaOk w lst (valE es) x.q := fun x hx => cfD_va h.ho (hz x hx)
    obtain ⟨R, hR⟩ : ∃ R, R = (sumB (ms.map Mz.q) ms.length + 7) / 8 := ⟨_, rfl⟩
    have hvo : ∀ y ∈ ms.map Mz.q, Oct (valE es y.i y.s) := fun y hy => by
      obtain ⟨x, hx, rfl⟩ := List.mem_map.1 hy
      obtain ⟨_, _, _, _, _, _, _, _, _, _, _, _, _, _, _, _, _, _, h2, _⟩ := hva x hx
      exact h2.row.oct
    have hpo := (pk_tb (ms.map Mz.q) (valE es) hvo R (by rw [List.length_map, hR]; omega) ms.length (by rw [List.length_map]; exact Nat.le_refl _)).1
    have hpl := pk_len (ms.map Mz.q) (valE es) R ms.length
    rw [hc]
    refine ⟨pk (ms.map Mz.q) (valE es) R ms.length, hpo, by rw [hpl, hR]; omega, fun W hW a G off cap had hM => ?_, fun W hW a G off cap had hM => ?_⟩
    · have hn := h.next hW
      refine (pack_any p m 0 lst (valE es) a G off cap ms had W hn.hp hn.hm hn.ho hM hi).mono ?_
      rintro e w' (⟨hne, _⟩ | ⟨_, g, R', rfl, rfl, hg, hh, hb⟩)
      · exact absurd (show chkC lst true ms = 0 from hc) hne
      · subst hR
        refine ⟨some ⟨g, 0, none⟩, by rw [hpl], fun _ => ⟨g, rfl, hg, hh⟩, hb⟩
    · have hn := h.next hW
      have HC := TW.r W hW true a G off cap had hM
      rw [show (if 64 < ms.length then 100925506 else chkZ (cfD lst true) ms 0 : Int) = 0 from hc] at HC
      refine (rpack_O (.pointer (some ⟨q, 0, none⟩)) a G off ms.length cap (ms.map Mz.q) (valE es) W (by simp) had z1 (hM.o z2) HC (fun W' hW' y hy => ?_) (fun y hy => ?_) z3).mono ?_
      · obtain ⟨x, hx, rfl⟩ := List.mem_map.1 hy
        obtain ⟨_, _, _, _, _, _, _, _, _, _, _, _, _, _, _, _, _, h1, _⟩ := hva x hx
        exact rget_both (hn.next hW') x.i x.s _ h1
      · obtain ⟨x, hx, rfl⟩ := List.mem_map.1 hy
        obtain ⟨_, _, _, _, _, _, _, _, _, _, _, _, _, _, _, lv, _, _, h2, _, h4, _⟩ := hva x hx
        rw [h2.row.size]
        exact h4
      · rintro e w' ⟨g, he, hg, hh, hb⟩
        subst hR
        exact ⟨some ⟨g, 0, none⟩, by rw [he, hpl], fun _ => ⟨g, rfl, hg, hh⟩, hb⟩
  · refine ⟨[], (by intro x hx; cases hx), by decide, fun W hW a G off cap had hM => ?_, fun W hW a G off cap had hM => ?_⟩
    · exact (pack_fail _ _ _ hc W (TW.p W hW true a G off cap had hM)).mono fun e w' hh => pk_fails hh
    · exact (rpack_fail _ _ _ hc W (TW.r W hW true a G off cap had hM)).mono fun e w' hh => pk_fails hh
#print axioms pk_none
#print axioms pk_some
end Go.Proofs.YtajllkkbgpijiaaDoor
namespace Go.Proofs.YtajllkkbgpijiaaDoor
open Go.RowKit

theorem row_pk {w : World} {a : Option Addr} {row : List Int} (ho : Oct row) (h : 0 < row.length → ∃ g, a = some ⟨g, 0, none⟩ ∧ w.heap[g]? = some (.cells (row.map (Value.int .u8)).toArray 5 (0, 0))) : Row w a row.length row := by
  by_cases h0 : 0 < row.length
  · obtain ⟨g, rfl, hg⟩ := h h0
    exact row_cells ho hg
  · exact ⟨rfl, ho, fun h => absurd h h0⟩

set_option linter.unusedSimpArgs false in
set_option maxHeartbeats 4000000 in
set_option maxRecDepth 100000 in
theorem mappingPacks_any {w : World} {a0 : Option Addr} {len0 : Nat} {es : List Em} (h0 : IsEn w a0 len0 es) (cap0 : Nat) (lm0 : len0 ≤ maxLen) {a1 : Option Addr} {len1 : Nat} {ms : List Mz} (h1 : IsMz w a1 len1 ms) (cap1 : Nat) (hT : Ty.Tab64 w) :
    Calls Tryd.prog 3 #[.slice a0 len0 cap0, .slice a1 len1 cap1] w fun e w' => e = .returned (.bool true) ∧ Below w.heap.size w w' := by
  have HT : Hid (Ty.Tab64 w) := hT
  have HS := size12 h0 cap0 lm0
  have H0 : Hid (IsEn w a0 len0 es) := h0
  have H1 : Hid (IsMz w a1 len1 ms) := h1
  have HWK : Hid (∀ W, Below w.heap.size w W → Calls Tryd.prog 5 #[] W fun e w' => e = .returned (.bool true) ∧ Below w.heap.size w w') := fun W hb => (works12 W (tab_next hT hb)).mono fun e w' ⟨h1, h2⟩ => ⟨h1, Below.andThen hb h2⟩
  clear h0 h1 hT
  go_enter Tryd.func3, Tryd.ntmps3
  go_wp2_with fail
  refine HS.mono ?_
  rintro e w1 ⟨n, rfl, hn, hf, hb⟩
  have B1 : Hid (Below w.heap.size w w1) := hb
  have HF : Hid (n ≤ 5000 → len0 ≤ 5000 ∧ ∀ e ∈ es, e.ld ≤ 5000 ∧ e.ll ≤ 5000 ∧ e.lh ≤ 5000) := hf
  clear HS hf hb
  by_cases hn5 : 5000 < n
  · have gn : (5000 : Int) < (n : Int) := by omega
    go_wp2_with fail
    refine (HWK.out _ B1.out).mono ?_
    rintro e w2 ⟨rfl, hb⟩
    go_wp2_with fail
    go_ret
    exact ⟨rfl, hb⟩
  have gn : ¬ ((5000 : Int) < (n : Int)) := by omega
  by_cases hl1 : 100 < len1
  · have gl : (100 : Int) < (len1 : Int) := by omega
    go_wp2_with fail
    refine (HWK.out _ B1.out).mono ?_
    rintro e w2 ⟨rfl, hb⟩
    go_wp2_with fail
    go_ret
    exact ⟨rfl, hb⟩
  have gl : ¬ ((100 : Int) < (len1 : Int)) := by omega
  have hF := HF.out (by omega)
  obtain ⟨eb, eo, had0, hat0⟩ : ∃ b off, (0 < es.length → a0 = some ⟨b, off, none⟩) ∧ ∀ (k : Nat) (e : Em), es[k]? = some e → EmAtO w1 b off k e := by
    by_cases hz : 0 < len0
    · obtain ⟨b, off, e, h⟩ := H0.out.at_ hz
      exact ⟨b, off, fun _ => e, fun k x hx => (h k x hx).next12 B1.out⟩
    · have hs := H0.out.size
      refine ⟨0, 0, fun h => by omega, fun k x hx => ?_⟩
      have := (List.getElem?_eq_some_iff.1 hx).1
      omega
  have hin : ∀ e ∈ es, EmIn w1 e := fun e he => by
    have a := (H0.out.ok e he).next B1.out
    have b := hF.2 e he
    exact ⟨a.rd, a.rl, a.rh, by omega, by omega, by omega⟩
  have BT := both_any a0 eb eo cap0 es w1 had0 hin hat0 (tab_next HT.out B1.out)
  rw [H0.out.size] at BT
  obtain ⟨g, off, had1, hM1⟩ : ∃ b off, (0 < ms.length → a1 = some ⟨b, off, none⟩) ∧ MzAt w b off ms := by
    by_cases hz : 0 < len1
    · obtain ⟨b, off, e, h⟩ := H1.out.at_ hz
      exact ⟨b, off, fun _ => e, h⟩
    · have hs := H1.out.size
      refine ⟨0, 0, fun h => by omega, fun k x hx => ?_⟩
      have := (List.getElem?_eq_some_iff.1 hx).1
      omega
  have HAD : Hid (0 < ms.length → a1 = some ⟨g, off, none⟩) := had1
  have HM : Hid (MzAt w g off ms) := hM1
  have HI : Hid (∀ x ∈ ms, 0 ≤ x.i ∧ x.i < 65536) := H1.out.ok
  have HL : Hid (ms.length = len1) := H1.out.size
  clear HF hF had0 hat0 hin had1 hM1 HT hn hn5 hl1
  go_wp2_with fail
  refine BT.mono ?_
  clear BT
  rintro e w2 ⟨hbt, hb⟩
  have B2 : Hid (Below w.heap.size w w2) := Below.andThen B1.out hb
  clear hb
  obtain ⟨dp, mp, code, row, rfl, htwo, hend⟩ : ∃ dp mp code row, e = .returned (.tuple #[dp, mp]) ∧ PkTwo w2 ms dp mp code row ∧ (dp = .pointer none ∨ ∃ p, dp = .pointer (some ⟨p, 0, none⟩) ∧ ∀ W, Below w2.heap.size w2 W → Calls Tryd.prog 10 #[dp, mp] W fun e w' => e = .returned (.bool true) ∧ Below W.heap.size W w') := by
    rcases hbt with ⟨_, p, m, lst, q, v, xs, rfl, hd⟩ | ⟨_, rfl⟩
    · obtain ⟨row, hp⟩ := pk_some hd HI.out
      exact ⟨_, _, _, row, rfl, hp, .inr ⟨p, rfl, fun W hW => same_any (hd.next hW)⟩⟩
    · exact ⟨_, _, _, [], rfl, pk_none w2 HI.out, .inl rfl⟩
  have PT : Hid (PkTwo w2 ms dp mp code row) := htwo
  have EN : Hid (dp = .pointer none ∨ ∃ p, dp = .pointer (some ⟨p, 0, none⟩) ∧ ∀ W, Below w2.heap.size w2 W → Calls Tryd.prog 10 #[dp, mp] W fun e w' => e = .returned (.bool true) ∧ Below W.heap.size W w') := hend
  clear hbt htwo hend
  have PP : Hid (∀ W, Below w2.heap.size w2 W → Calls Tryd.prog 7 #[dp, .slice a1 len1 cap1] W (PkPost code row W)) := fun W hW => by
    have := PT.out.p W hW a1 g off cap1 HAD.out (HM.out.next (Below.andThen B2.out hW))
    rwa [HL.out] at this
  have PL : Hid (∀ W, Below w2.heap.size w2 W → Calls Tryd.prog 9 #[.slice a1 len1 cap1] W fun e w' => ∃ a G c, e = .returned (.slice a len1 c) ∧ (0 < ms.length → a = some ⟨G, 0, none⟩) ∧ MzAt w' G 0 ms ∧ Below W.heap.size W w') := fun W hW => by
    have := plain_any a1 g off cap1 ms W HAD.out (HM.out.next (Below.andThen B2.out hW)) (by have := HL.out; omega)
    rw [HL.out] at this ⊢
    exact this
  have RP : Hid (∀ W, Below w2.heap.size w2 W → ∀ a G c, (0 < ms.length → a = some ⟨G, 0, none⟩) → MzAt W G 0 ms → Calls Tryd.prog 8 #[mp, .slice a len1 c] W (PkPost code row W)) := fun W hW a G c ha hm => by
    have := PT.out.r W hW a G 0 c ha hm
    rwa [HL.out] at this
  obtain ⟨n, hn⟩ : ∃ n, Hid (n = row.length) := ⟨_, rfl⟩
  have n8 : n ≤ 8 := by have := PT.out.l; have := hn.out; omega
  obtain ⟨sz, hsz⟩ : ∃ sz, Hid (sz = strOfNums row) := ⟨_, rfl⟩
  have RS : Hid (∀ (W : World) (a : Option Addr), Row W a n row → (convert 30 9 (.slice a n n)).run Tryd.prog W = .ok (.string sz) W) := fun W a h => by rw [hsz.out]; exact h.str n
  have RK : Hid (∀ (W : World) (a : Option Addr), (0 < row.length → ∃ g, a = some ⟨g, 0, none⟩ ∧ W.heap[g]? = some (.cells (row.map (Value.int .u8)).toArray 5 (0, 0))) → Row W a n row) := fun W a h => by rw [hn.out]; exact row_pk PT.out.o h
  clear hsz
  go_wp2_with fail
  refine (PP.out _ (Below.refl _ _)).mono ?_
  rintro e w3 ⟨ba, rfl, hba, hb3⟩
  have D3 : Hid (Below w2.heap.size w2 w3) := hb3
  have BA3 : Hid (0 < row.length → ∃ g, ba = some ⟨g, 0, none⟩ ∧ w2.heap.size ≤ g ∧ w3.heap[g]? = some (.cells (row.map (Value.int .u8)).toArray 5 (0, 0))) := hba
  rw [← hn.out]
  clear hba hb3
  go_wp2_with fail
  refine (PL.out _ D3.out).mono ?_
  rintro e w4 ⟨a5, G5, c5, rfl, hA5, hM5, hb4⟩
  have D4 : Hid (Below w2.heap.size w2 w4) := Below.andThen D3.out hb4
  have R4 := RP.out _ D4.out a5 G5 c5 hA5 hM5
  have BA4 : Hid (0 < row.length → ∃ g, ba = some ⟨g, 0, none⟩ ∧ w2.heap.size ≤ g ∧ w4.heap[g]? = some (.cells (row.map (Value.int .u8)).toArray 5 (0, 0))) := fun h => by
    obtain ⟨g, h1, h2, h3⟩ := BA3.out h
    exact ⟨g, h1, h2, blk11 hb4 h3⟩
  clear hA5 hM5 hb4 BA3 PL
  go_wp2_with fail
  refine R4.mono ?_
  rintro e w5 ⟨wa, rfl, hwa, hb5⟩
  rw [← hn.out]
  have D5 : Hid (Below w2.heap.size w2 w5) := Below.andThen D4.out hb5
  have BA5 : Hid (0 < row.length → ∃ g, ba = some ⟨g, 0, none⟩ ∧ w2.heap.size ≤ g ∧ w5.heap[g]? = some (.cells (row.map (Value.int .u8)).toArray 5 (0, 0))) := fun h => by
    obtain ⟨g, h1, h2, h3⟩ := BA4.out h
    exact ⟨g, h1, h2, blk11 hb5 h3⟩
  have WA5 : Hid (0 < row.length → ∃ g, wa = some ⟨g, 0, none⟩ ∧ w4.heap.size ≤ g ∧ w5.heap[g]? = some (.cells (row.map (Value.int .u8)).toArray 5 (0, 0))) := hwa
  have AP : Hid (∀ b1 o1 b2 o2, 0 < row.length → ba = some ⟨b1, o1, none⟩ → wa = some ⟨b2, o2, none⟩ → b2 ≠ b1) := fun b1 o1 b2 o2 h e1 e2 => by
    obtain ⟨g, h1, h2, h3⟩ := BA4.out h
    obtain ⟨g', h1', h2', h3'⟩ := WA5.out h
    have := lt_of_heap h3
    rw [e1] at h1; rw [e2] at h1'
    cases h1; cases h1'
    omega
  have RB : Row w5 ba n row := RK.out w5 ba fun h => by obtain ⟨g, h1, h2, h3⟩ := BA5.out h; exact ⟨g, h1, h3⟩
  have RW : Hid (Row w5 wa n row) := RK.out w5 wa fun h => by obtain ⟨g, h1, h2, h3⟩ := WA5.out h; exact ⟨g, h1, h3⟩
  have s1 := RS.out w5 ba RB
  have s2 := RS.out w5 wa RW.out
  clear R4 hwa hb5 BA4 WA5 RB RP
  go_wp2_with fail
  clear s1 s2
  go_loopw [11] (fun iv wr => ∃ k : Nat, k ≤ n ∧ iv = .int .i64 (k : Int) ∧ Hid (Below w2.heap.size w2 wr ∧ Row wr wa n row ∧ (0 < n → ∃ (g : Nat) (ys : List Int), ba = some ⟨g, 0, none⟩ ∧ w2.heap.size ≤ g ∧ ys.length = n ∧ wr.heap[g]? = some (.cells (ys.map (Value.int .u8)).toArray 5 (0, 0))))) (fun iv _ => n - (intOf iv).toNat)
  case atStart => exact ⟨0, Nat.zero_le _, rfl, D5.out, RW.out, fun h => by obtain ⟨g, h1, h2, h3⟩ := BA5.out (by rw [← hn.out]; exact h); exact ⟨g, row, h1, h2, hn.out.symm, h3⟩⟩
  case round =>
    clear RW BA5
    obtain ⟨k, hk, rfl, HR⟩ := hrel
    by_cases hkn : k < n
    · have gk : (k : Int) < (n : Int) := by omega
      have gk0 : (0 : Int) ≤ (k : Int) := by omega
      obtain ⟨D, RW, hB⟩ := HR.out
      obtain ⟨gb, ys, rfl, lg, yl, hg⟩ := hB (by omega)
      have ck : wr.cell? ⟨gb, k, none⟩ = some (.int .u8 (ys.getD k 0)) := by
        rw [cell_of_row wr _ _ _ _ _ hg, List.getElem?_toArray, List.getElem?_map, List.getD_eq_getElem?_getD, List.getElem?_eq_getElem (by omega)]
        rfl
      obtain ⟨z, hz⟩ : ∃ z, Hid (z = ys.getD k 0) := ⟨_, rfl⟩
      rw [← hz.out] at ck
      obtain ⟨x, hx⟩ : ∃ x, Hid (x = bits .xor .u8 z 255) := ⟨_, rfl⟩
      have ex : bits .xor .u8 z 255 = x := hx.out.symm
      have fz : wr.frozen? ⟨gb, k, none⟩ = false := frozen_of_row _ _ _ _ _ hg
      have G9 : Hid ((wr.setCell ⟨gb, k, none⟩ (.int .u8 x)).heap[gb]? = some (.cells ((ys.set k x).map (Value.int .u8)).toArray 5 (0, 0))) := by
        show _ = _
        rw [heap_setCell_same _ _ _ _ _ _ hg, List.map_set]
        simp
      have K9 : Kp [gb] wr (wr.setCell ⟨gb, k, none⟩ (.int .u8 x)) := (Kp.refl _ _).set _ _ (.inl (by simp))
      have R9 : Hid (Row (wr.setCell ⟨gb, k, none⟩ (.int .u8 x)) wa n row) := RW.apart K9 fun b o e => AP.out gb 0 b o (by have := hn.out; omega) rfl e
      have D9 : Hid (Below w2.heap.size w2 (wr.setCell ⟨gb, k, none⟩ (.int .u8 x))) := Below.setCell D (by simpa using lg) _
      have wk : IntKind.i64.wrap ((k : Int) + 1) = ((k + 1 : Nat) : Int) := by rw [IntKind.wrap_i64]; omega
      clear hB D RW HR hz hx K9 hg
      go_wp2_with fail
      exact ⟨⟨k + 1, by omega, by go_num, D9.out, R9.out, fun _ => ⟨gb, ys.set k x, rfl, lg, by simp [yl], G9.out⟩⟩, by simp [intOf]; omega⟩
    · obtain rfl : k = n := by omega
      have gk : ¬ ((k : Int) < (k : Int)) := by omega
      have D6 : Hid (Below w2.heap.size w2 wr) := HR.out.1
      have RW6 : Hid (Row wr wa k row) := HR.out.2.1
      clear HR
      go_wp2_with fail
      refine (PP.out _ D6.out).mono ?_
      rintro e w7 ⟨ca, rfl, hca, hb7⟩
      rw [← hn.out]
      have D7 : Hid (Below w2.heap.size w2 w7) := Below.andThen D6.out hb7
      have s1 := RS.out w7 ca (RK.out w7 ca fun h => by obtain ⟨g, h1, h2, h3⟩ := hca h; exact ⟨g, h1, h3⟩)
      have s2 := RS.out w7 wa (RW6.out.next hb7)
      clear hca hb7 RW6
      have WK := fun W (hW : Below w2.heap.size w2 W) => HWK.out W (Below.andThen B2.out hW)
      rcases EN.out with rfl | ⟨p, rfl, hsm⟩
      · go_wp2_with fail
        refine (WK _ D7.out).mono ?_
        rintro e w8 ⟨rfl, hb⟩
        go_wp2_with fail
        go_ret
        exact ⟨rfl, hb⟩
      · have SM := hsm _ D7.out
        clear hsm
        go_wp2_with fail
        refine SM.mono ?_
        rintro e w8 ⟨rfl, hb8⟩
        have D8 := Below.andThen D7.out hb8
        clear SM s1 s2 hb8
        go_wp2_with fail
        refine (WK _ D8).mono ?_
        rintro e w9 ⟨rfl, hb⟩
        go_wp2_with fail
        go_ret
        exact ⟨rfl, hb⟩
#print axioms mappingPacks_any
end Go.Proofs.YtajllkkbgpijiaaDoor
namespace Go.Proofs.YtajllkkbgpijiaaDoor
open Go.ChangeShapes Go.WideShapes Go.ChangeAt Go.RowKit
open Go.ChangeMaps (open_string shut_string)

namespace mappingPacks
theorem laid_met (os : Os) : laidMet Tryd.prog Rows.mappingPacksRow.laid (({ World.holding Tryd.prog os ⟨#[], #[], []⟩ with heap := (World.holding Tryd.prog os ⟨#[], #[], []⟩).heap.modify 1 (put (Lib.deBruijn64tab.map fun n : Nat => Value.int .u8 (n : Int)).toArray) } : World).forCall (fun _ _ => 0) ⟨#[], #[.slice none 0 0, .slice none 0 0], []⟩).memory :=
  laidMet_of_run' 8 (by kernel_rfl) (by kernel_rfl)
theorem reads (os : Os) {H : Type} (enc : TypeId × Value → H) : ∃ places, DataW.whole enc Tryd.prog (({ World.holding Tryd.prog os ⟨#[], #[], []⟩ with heap := (World.holding Tryd.prog os ⟨#[], #[], []⟩).heap.modify 1 (put (Lib.deBruijn64tab.map fun n : Nat => Value.int .u8 (n : Int)).toArray) } : World).forCall (fun _ _ => 0) ⟨#[], #[.slice none 0 0, .slice none 0 0], []⟩).memory Tryd.f3.params.toList Rows.mappingPacksSpec.vars false (#[.slice none 0 0, .slice none 0 0] : Array Value).toList 8 = some ([.nil, .nil], [], places) :=
  ⟨[], by kernel_rfl⟩

set_option maxRecDepth 100000 in
theorem contract (H : Type) (enc : TypeId × Value → H) (W : World) (base : Nat) (args : Array Value) (ds gs : List (DataW H)) (before : List MemPlace)
    (hval : ∀ (j : Nat) t v, Tryd.f3.params[j]? = some t → args[j]? = some v → Value.okWide Tryd.prog W .any base t v)
    (hW : DataW.Whole enc Tryd.prog Tryd.f3.params.toList Rows.mappingPacksSpec.vars false W args.toList ds gs before) (hL : laidMetH Tryd.prog Rows.mappingPacksRow.laid W) (hsz : ∀ (j : Nat) (t : TypeId) (d : DataW H), Tryd.f3.params.toList[j]? = some t → ds[j]? = some d → ∀ n ∈ d.weights Tryd.prog t, n ≤ reachBytes) :
    Calls Tryd.prog 3 args W fun e W' => ∃ v, e = .returned v ∧ Rows.mappingPacksSpec.post enc Tryd.prog Tryd.f3 false true false false W args v W' := by
  have hW' := hW
  obtain ⟨p, q, hA0, hV, rfl, hfz, hnd⟩ := hW
  have hA : DataW.TrodAll enc Tryd.prog W 0 (fun _ => true) true Tryd.f3.params.toList args.toList ds p := hA0
  rw [Tryd.params3] at hA hval hsz
  obtain ⟨v0, vs0, d0, ds0, p0, q0, hargs, rfl, rfl, h0, r0⟩ := trodAll_cons hA
  obtain ⟨v1, vs1, d1, ds1, p1, q1, rfl, rfl, rfl, h1, r1⟩ := trodAll_cons r0
  obtain ⟨rfl, rfl, rfl⟩ := trodAll_nil r1
  obtain rfl : args = #[v0, v1] := by cases args; simp_all
  obtain ⟨rfl, rfl⟩ := trodVars_none hV
  have k0 := h0
  have lt0 : ∀ x ∈ p0, x.block < W.heap.size := by obtain ⟨m, hm⟩ := k0; exact DataW.trod_lt m _ _ _ hm
  obtain ⟨a0, len0, cap0, rfl⟩ := okWide_slice Tryd.underlying22 (hval 0 22 v0 rfl rfl)
  obtain ⟨l0, o0, lc0⟩ : ∃ l, IsEn W a0 len0 l ∧ len0 ≤ maxLen := by
    obtain ⟨fuel, hf⟩ := h0
    obtain ⟨a', len', cap', l, e, ho, hc, hm⟩ := open_en (v := .slice a0 len0 cap0) hf (hsz 0 22 _ rfl rfl)
    cases e
    exact ⟨l, ho, Nat.le_trans hc hm⟩
  have k1 := h1
  have lt1 : ∀ x ∈ p1, x.block < W.heap.size := by obtain ⟨m, hm⟩ := k1; exact DataW.trod_lt m _ _ _ hm
  obtain ⟨a1, len1, cap1, rfl⟩ := okWide_slice Tryd.underlying23 (hval 1 23 v1 rfl rfl)
  obtain ⟨l1, o1⟩ : ∃ l, IsMz W a1 len1 l := by
    obtain ⟨fuel, hf⟩ := h1
    obtain ⟨a', len', cap', l, e, ho, hc, hm⟩ := open_mz (v := .slice a1 len1 cap1) hf
    cases e
    exact ⟨l, ho⟩
  clear hA0
  refine (mappingPacks_any o0 cap0 lc0 o1 cap1 (tab10 hL)).mono fun e W' ⟨he, bel⟩ => ?_
  subst he
  exact ⟨_, rfl, _, _, _, [], _, [], hW', trodAll_mk1 (shut_bool Tryd.underlying4 _), (trodAll_cons_mk (Below.trod laidOut (by kernel_rfl) (of_decide_eq_true (by kernel_rfl)) k0 bel lt0) (trodAll_cons_mk (Below.trod laidOut (by kernel_rfl) (of_decide_eq_true (by kernel_rfl)) k1 bel lt1) trodAll_mk0)), rfl, bel.frame _, fun h => by cases h⟩

set_option maxRecDepth 100000 in
theorem lifted (os : Os) (started : os.Started) (H : Type) (enc : TypeId × Value → H) (F : Stop.Interp) :
    ReturnsInHanded {} Tryd.checked os 3 .any ((OpenSpec.ofChange Rows.mappingPacksSpec).preRow enc Tryd.prog Tryd.f3 Rows.mappingPacksRow.domain false Rows.mappingPacksRow.laid) (((OpenSpec.ofChange Rows.mappingPacksSpec).at F).post enc Tryd.prog Tryd.f3 false true false false) := by
  obtain ⟨places, hx⟩ := reads os enc
  refine returnsInHanded_of_row (C := Tryd.checked) (s := OpenSpec.ofChange Rows.mappingPacksSpec) own started (by kernel_rfl) Tryd.func3
    (witness_row_at (enc := enc) (C := Tryd.checked) false ({ World.holding Tryd.prog os ⟨#[], #[], []⟩ with heap := (World.holding Tryd.prog os ⟨#[], #[], []⟩).heap.modify 1 (put (Lib.deBruijn64tab.map fun n : Nat => Value.int .u8 (n : Int)).toArray) } : World) #[.slice none 0 0, .slice none 0 0] rfl (by kernel_rfl) (by kernel_rfl) (by kernel_rfl)
      (OpenSpec.preRow_of_cond 8 hx (by kernel_rfl) (fun k hk => by cases hk) (by kernel_rfl) (laid_met os))) ?_
  intro W base args ds gs before hval hW _ _ hsz hL _ _
  exact contract H enc W base args ds gs before hval hW hL (sized_of hsz)

theorem said : Rows.MappingPacksSaid :=
  OpenClaim.holds_of_cond 3 Tryd.f3 rfl rfl rfl rfl rfl rfl rfl ⟨rfl, rfl, rfl, rfl, rfl⟩ rfl rfl rfl rfl rfl (by kernel_rfl) Tryd.func3 (by kernel_rfl)
    (of_decide_eq_true (by kernel_rfl)) (by unfold Func.isWrapper; first | (rw [if_pos (by decide +kernel)]; kernel_rfl) | (rw [if_neg (by decide +kernel)]; exact ⟨rfl, rfl⟩))
    (fun os started H enc _ F => by rw [OpenClaim.pre_eq_preRow]; exact lifted os started H enc F)

theorem plain (f : FuncId) (fn : Func) (hf : Tryd.pinned.checked.prog.funcNamed "campanile/campanilelaw12.MappingPacks" = some f) (hfn : Tryd.pinned.checked.prog.funcs[f]? = some fn) :
    false = Tryd.pinned.checked.prog.looks [] ∧ ∀ (j : Nat) t, fn.params[j]? = some t → Tryd.pinned.checked.prog.wantsStandIn t = false := by
  obtain rfl : f = 3 := Option.some.inj ((show Tryd.prog.funcNamed "campanile/campanilelaw12.MappingPacks" = some 3 by kernel_rfl).symm.trans hf) |>.symm
  obtain rfl : fn = Tryd.f3 := (Option.some.inj (Tryd.func3.symm.trans hfn)).symm
  refine ⟨by kernel_rfl, fun j t ht => ?_⟩
  rw [Tryd.params3] at ht
  have hm := Array.mem_of_getElem? ht
  simp at hm
  rcases hm with rfl | rfl
  · exact (show Tryd.prog.wantsStandIn 22 = false by kernel_rfl)
  · exact (show Tryd.prog.wantsStandIn 23 = false by kernel_rfl)
end mappingPacks

/-- MappingPacks, the tied card. -/
theorem mappingPacks_holds : Rows.MappingPacksCardSaid :=
  Claim7.holds_tied_plain_at .later [] _ _ _ _ mappingPacks.said (fun _ h => by cases h) (by kernel_rfl) (fun _ h => by cases h) mappingPacks_row_tie rfl ⟨rfl, rfl⟩ (by kernel_rfl) rfl mappingPacks.plain (by kernel_rfl)
#print axioms mappingPacks_holds
end Go.Proofs.YtajllkkbgpijiaaDoor
