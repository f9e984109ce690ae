/-
  Get; the example's entries and Maps.
-/
import Derived.Test.YtcdmldnaagiicaaDoorGh
namespace Go.Proofs.YtcdmldnaagiicaaDoor
open Go.RowKit

set_option linter.unusedSimpArgs false in
set_option maxHeartbeats 4000000 in
set_option maxRecDepth 100000 in
theorem get_at (p m : Nat) (cg : Int) (lst : Mp) (i s : Int) (nm : ByteArray) (t rt : Int) (d : Option Addr) (ld cd : Nat) (l : Option Addr) (ll cl : Nat) (h : Option Addr) (lh ch : Nat) (tg gr : Int) (v : Option Addr) (lv cv : Nat) (zv : List Int) (w : World) (hp : w.heap[p]? = some (.cells #[.map (some m), .int .i64 cg] 58 (0, 0))) (hm : IsM w m lst) (hl : lookP lst i s = some (.agg (itC i s nm t rt d ld cd l ll cl h lh ch tg gr v lv cv))) (rv : SlOk w v lv cv zv) (hlv : lv ≤ 16777216) :
    Calls Tryd.prog 12 #[.pointer (some ⟨p, 0, none⟩), plV i s] w fun e w' => (∃ a' cap', e = .returned (.tuple #[.slice a' lv cap', .bool true]) ∧ Told w w' a' lv cap' zv) ∧ Below w.heap.size w w' := by
  have HF : Hid (∀ W, Below w.heap.size w W → Calls Tryd.prog 27 #[.pointer (some ⟨p, 0, none⟩), plV i s] W fun e w' => e = .returned (.tuple #[.agg (itC i s nm t rt d ld cd l ll cl h lh ch tg gr v lv cv), .int .u32 0]) ∧ Below W.heap.size W w') := fun W hb => find_at p m cg lst i s nm t rt d ld cd l ll cl h lh ch tg gr v lv cv W (blk11 hb hp) (hm.next hb) hl
  have HC : Hid (∀ W, Below w.heap.size w W → Calls Tryd.prog 18 #[.slice v lv cv] W fun e w' => (∃ a' cap', e = .returned (.slice a' lv cap') ∧ Told W w' a' lv cap' zv) ∧ Below W.heap.size W w') := fun W hb => clone8_any v lv cv zv W (rv.row.next hb) hlv
  clear hp hm hl rv
  go_enter Tryd.func12, Tryd.ntmps12
  go_wp2_with fail
  refine (HF.out _ (by repeat (first | exact Below.refl _ _ | apply Below.drew | apply Below.al))).mono ?_
  rintro e w1 ⟨rfl, hb⟩
  have B1 : Hid (Below w.heap.size w w1) := Below.andThen (by repeat (first | exact Below.refl _ _ | apply Below.drew | apply Below.al)) hb
  clear hb
  go_wp2_with fail
  refine (HC.out _ (Below.al B1.out _)).mono ?_
  rintro e w3 ⟨⟨a', cap', rfl, ht⟩, hb⟩
  have T3 : Hid (Told (w1.alloc (.cells (itC i s nm t rt d ld cd l ll cl h lh ch tg gr v lv cv) 62)) w3 a' lv cap' zv) := ht
  have N3 : Hid (Below w.heap.size w w3) := Below.andThen (Below.al B1.out _) hb
  clear hb ht
  go_wp2_with fail
  go_ret2
  exact ⟨⟨a', cap', rfl, T3.out.keep11 (by have := B1.out.size; simp; omega) (fun _ _ _ => rfl)⟩, N3.out⟩

set_option linter.unusedSimpArgs false in
set_option maxHeartbeats 4000000 in
set_option maxRecDepth 100000 in
theorem entry12_any (sub t : Int) (a : Option Addr) (len cap : Nat) (zs : List Int) (w : World) (hr : Row w a len zs) (hl : len ≤ 1000) :
    Calls Tryd.prog 30 #[.int .u8 sub, .int .u8 t, .slice a len cap] w fun e w' => ∃ a' c', e = .returned (.agg (enC 24576 sub ⟨#[]⟩ t 7 a' len c' none 0 0 none 0 0 0 0)) ∧ SlOk w' a' len c' zs ∧ Below w.heap.size w w' := by
  have HR : Hid (∀ W, Below w.heap.size w W → Row W a len zs) := fun W hb => hr.next hb
  clear hr
  go_enter Tryd.func30, Tryd.ntmps30
  go_wp2_with (at_builtin; refine wpList_append_nil rfl _ _ rfl rfl a len cap zs rfl (HR.out _ (by repeat (first | exact Below.refl _ _ | apply Below.drew | apply Below.al))) (by omega) ?_)
  intro a' c' w1 h1 h2 h3 h4 h6
  have A4 : Hid (∀ b off, a' = some ⟨b, off, none⟩ → b = w.heap.size + 1) := fun b off e => by have := (h4 b off e).1; simpa using this
  clear h4
  have h5 := h6
  rw [← World.size_alloc] at h5
  have B1 : Hid (Below w.heap.size w w1) := Below.andThen (by repeat (first | exact Below.refl _ _ | apply Below.drew | apply Below.al)) h5
  have X1 : Hid (w1.heap[w.heap.size]? = some (.cells (enC 0 0 ⟨#[]⟩ 0 0 none 0 0 none 0 0 none 0 0 0 0) 53 (0, 0))) := blk11 h5 (at11 _ _ _ rfl)
  have S1 : Hid (SlOk w1 a' len c' zs) := ⟨h3, h1, h2⟩
  have ST := store_part 53 10 sizeE w1 w.heap.size 0 _ _ X1.out (enC 24576 sub ⟨#[]⟩ t 7 a' len c' none 0 0 none 0 0 0 0).toList rfl (by simp) (by simp [Value.oneCell'])
  clear h1 h2 h3 h5 h6
  go_wp2_with (refine wpList_store_by rfl 53 _ _ rfl ⟨w.heap.size, 0, none⟩ _ rfl rfl ST ?_)
  have K1 : Kp [w.heap.size] w1 (w1.setRow w.heap.size (enC 24576 sub ⟨#[]⟩ t 7 a' len c' none 0 0 none 0 0 0 0)) := (Kp.refl _ _).row _ _ (.inl (by simp))
  refine bodyPost_ret (results_cell_row (P := Tryd.prog) rfl _ _ w.heap.size 53 (enC 24576 sub ⟨#[]⟩ t 7 a' len c' none 0 0 none 0 0 0 0) (0, 0) _ rfl (setRow_heap w1 w.heap.size _ _ _ _ X1.out) Tryd.underlying53 rfl sizeE) rfl ⟨a', c', rfl, ⟨S1.out.row.kps K1 (fun _ b off e => by have := A4.out b off e; simp; omega), S1.out.le, S1.out.max⟩, below_setRow B1.out (Nat.le_refl _) _⟩
#print axioms get_at

/-- The example's three entries. -/
def exE12 (a1 : Option Addr) (c1 : Nat) (a2 : Option Addr) (c2 : Nat) (a3 : Option Addr) (c3 : Nat) : List Em := [⟨24576, 1, ⟨#[]⟩, 5, 7, a1, 1, c1, none, 0, 0, none, 0, 0, 0, 0, [3], [], []⟩, ⟨24576, 2, ⟨#[]⟩, 1, 7, a2, 1, c2, none, 0, 0, none, 0, 0, 0, 0, [1], [], []⟩, ⟨24576, 3, ⟨#[]⟩, 3, 7, a3, 2, c3, none, 0, 0, none, 0, 0, 0, 0, [254, 255], [], []⟩]
/-- Its three Maps. -/
def ms12 : List Mq := [⟨24576, 1, 8⟩, ⟨24576, 2, 1⟩, ⟨24576, 3, 16⟩]
theorem o12a : Oct [3] := fun n hn => by simp at hn; omega
theorem o12b : Oct [1] := fun n hn => by simp at hn; omega
theorem o12c : Oct [254, 255] := fun n hn => by simp at hn; omega

set_option linter.unusedSimpArgs false in
set_option maxHeartbeats 4000000 in
set_option maxRecDepth 100000 in
theorem three12_any (w : World) : Calls Tryd.prog 14 #[] w fun e w' => ∃ ge gm a1 c1 a2 c2 a3 c3, e = .returned (.tuple #[.slice (some ⟨ge, 0, none⟩) 3 3, .slice (some ⟨gm, 0, none⟩) 3 3]) ∧ SlOk w' a1 1 c1 [3] ∧ SlOk w' a2 1 c2 [1] ∧ SlOk w' a3 2 c3 [254, 255] ∧ (∀ k e, (exE12 a1 c1 a2 c2 a3 c3)[k]? = some e → EmAt w' ge k e) ∧ MsAt w' gm ms12 ∧ Below w.heap.size w w' := by
  go_enter Tryd.func14, Tryd.ntmps14
  go_wp2_with fail
  refine (entry12_any 1 5 _ 1 1 [3] _ (row_lit w _ _ [3] 1 rfl o12a rfl) (by decide)).mono ?_
  rintro e w1 ⟨a1, c1, rfl, s1, b1⟩
  have B1 : Hid (Below w.heap.size w w1) := Below.andThen (by repeat (first | exact Below.refl _ _ | apply Below.drew | apply Below.al)) b1
  have S1 : Hid (SlOk w1 a1 1 c1 [3]) := s1
  clear s1 b1
  go_wp2_with fail
  refine (entry12_any 2 1 _ 1 1 [1] _ (row_lit w1 _ _ [1] 1 rfl o12b rfl) (by decide)).mono ?_
  rintro e w2 ⟨a2, c2, rfl, s2, b2⟩
  have B2 : Hid (Below w.heap.size w w2) := Below.andThen (Below.al B1.out _) b2
  have S1' : Hid (SlOk w2 a1 1 c1 [3]) := (S1.out.next (by repeat (first | exact Below.refl _ _ | apply Below.drew | apply Below.al))).next b2
  have S2 : Hid (SlOk w2 a2 1 c2 [1]) := s2
  clear s2 b2 S1
  go_wp2_with fail
  refine (entry12_any 3 3 _ 2 2 [254, 255] _ (row_lit w2 _ _ [254, 255] 2 rfl o12c rfl) (by decide)).mono ?_
  rintro e w3 ⟨a3, c3, rfl, s3, b3⟩
  have B3 : Hid (Below w.heap.size w w3) := Below.andThen (Below.al B2.out _) b3
  have T1 : Hid (SlOk w3 a1 1 c1 [3]) := (S1'.out.next (by repeat (first | exact Below.refl _ _ | apply Below.drew | apply Below.al))).next b3
  have T2 : Hid (SlOk w3 a2 1 c2 [1]) := (S2.out.next (by repeat (first | exact Below.refl _ _ | apply Below.drew | apply Below.al))).next b3
  have T3 : Hid (SlOk w3 a3 2 c3 [254, 255]) := s3
  clear s3 b3 S1' S2
  go_wp2_with fail
  go_ret2
  refine ⟨w3.heap.size, w3.heap.size + 1, a1, c1, a2, c2, a3, c3, rfl, T1.out.next (by repeat (first | exact Below.refl _ _ | apply Below.drew | apply Below.al)), T2.out.next (by repeat (first | exact Below.refl _ _ | apply Below.drew | apply Below.al)), T3.out.next (by repeat (first | exact Below.refl _ _ | apply Below.drew | apply Below.al)), ?_, ?_, Below.al (Below.al B3.out _) _⟩
  · intro k e he
    rcases k with _ | _ | _ | k
    case succ.succ.succ => simp [exE12] at he
    all_goals
      simp only [exE12, List.getElem?_cons_zero, List.getElem?_cons_succ, Option.some.injEq] at he
      subst he
      refine ⟨?_, ?_, ?_, ?_, ?_, ?_, ?_, ?_, ?_, ?_⟩ <;> (rw [cell_of_row _ w3.heap.size _ _ _ _ (ext11 (at11 _ _ _ rfl))]; rfl)
  · intro k x hx
    rcases k with _ | _ | _ | k
    case succ.succ.succ => simp [ms12] at hx
    all_goals
      simp only [ms12, List.getElem?_cons_zero, List.getElem?_cons_succ, Option.some.injEq] at hx
      subst hx
      refine ⟨?_, ?_, ?_⟩ <;> (rw [cell_of_row _ (w3.heap.size + 1) _ _ _ _ (at11 _ _ _ (by simp))]; rfl)
#print axioms three12_any
end Go.Proofs.YtcdmldnaagiicaaDoor
