/-
  The walk of the writing of a beginning.
-/
import Derived.Test.YtchelanikhoogaaSd6c
import Derived.Test.YtchelanikhoogaaSi
namespace Go.Proofs.Ytchelanikhoogaa
open Go.RowKit

set_option linter.unusedSimpArgs false in
set_option maxHeartbeats 4000000 in
set_option maxRecDepth 100000 in
theorem writeBegin_any (f k i s : Int) (z : Bool) (n : Int) (q : Bool) (a : Option Addr) (len cap : Nat) (t l c : Bool) (b e u m o : Int) (hi : 0 ≤ i ∧ i < 65536) (hn : 0 ≤ n ∧ n < 4294967296) (zs : List Int) (w : World) (hr : Row w a len zs) :
    Calls Try.prog 37 #[arr8 f 0 0 0 0 0 0 0, cmV k i s z n q a len cap t l c b e u m o] w (WPost w (if q then (if onlyN i s z n q len t l c b e u m o 27 && quickOk z len then some ⟨q0 f z len, i % 256, i / 256, s, zb zs 0, zb zs 1, zb zs 2, zb zs 3⟩ else none) else (if onlyN i s z n q len t l c b e u m o 7 && (z || n == 0) then some ⟨bits .or .u8 f (bitv z 1), i % 256, i / 256, s, n % 256, n / 256 % 256, n / 65536 % 256, n / 16777216⟩ else none))) := by
  cases q
  · simp only [Bool.false_eq_true, if_false]
    clear hr
    obtain ⟨R, hR⟩ : ∃ R, onlyN i s z n false len t l c b e u m o 7 = R := ⟨_, rfl⟩
    cases R
    · rw [hR]
      have ho := fun w => only_no k i s z n false a len cap t l c b e u m o 7 (by decide) 7 rfl hR w
      clear hR
      go_enter Try.func37, Try.ntmps37
      go_wp2_with fail
      with_reducible refine (ho _).mono ?_
      rintro r w1 ⟨rfl, o1, o2, o3, rfl⟩
      clear ho
      go_wp2_with fail
      exact ⟨rfl, rfl, (by repeat (first | exact Below.refl _ _ | apply Below.drew | apply Below.al))⟩
    have ho := fun w => only_yes k i s z n false a len cap t l c b e u m o 7 (by decide) 7 rfl hR w
    rw [hR]
    clear hR
    cases z
    · by_cases h1 : n = 0
      · subst h1
        go_enter Try.func37, Try.ntmps37
        go_wp2_with fail
        with_reducible refine (ho _).mono ?_
        rintro r w1 ⟨rfl, o1, o2, o3, rfl⟩
        clear ho
        go_wp2_with fail
        with_reducible refine (must_true _).mono ?_
        rintro r w1 ⟨rfl, rfl⟩
        go_wp2_with fail
        go_cut [] from 5 (fun wx => wx = ((((((w.alloc (.cells (ar8 (bits .or .u8 f (bitv false 1)) (0) (0) (0) (0) (0) (0) (0)) 31)).alloc (.cells (cmC k i s false 0 false a len cap t l c b e u m o) 29)).alloc (.cells (ar8 0 0 0 0 0 0 0 0) 31)).alloc o1).alloc o2).alloc o3).drew)
        case first =>
          go_region_with (go_at_call 31; refine (bit_any _ _ _).mono ?_; rintro r w1 ⟨rfl, rfl⟩)
          all_goals
            go_wp2_with fail
            go_meet
            exact rfl
        case rest =>
          obtain rfl := hcut
          go_wp2_with fail
          go_region_held3 (fun x => x.cell? ⟨w.heap.size, 0, none⟩ = some (.int .u8 (bits .or .u8 f (bitv false 1))) ∧ x.cell? ⟨w.heap.size, 1, none⟩ = some (.int .u8 (0)) ∧ x.cell? ⟨w.heap.size, 2, none⟩ = some (.int .u8 (0)) ∧ x.cell? ⟨w.heap.size, 3, none⟩ = some (.int .u8 (0)) ∧ x.cell? ⟨w.heap.size, 4, none⟩ = some (.int .u8 (0)) ∧ x.cell? ⟨w.heap.size, 5, none⟩ = some (.int .u8 (0)) ∧ x.cell? ⟨w.heap.size, 6, none⟩ = some (.int .u8 (0)) ∧ x.cell? ⟨w.heap.size, 7, none⟩ = some (.int .u8 (0)) ∧ x.cell? ⟨w.heap.size + 1, 1, none⟩ = some (.int .u16 i) ∧ x.cell? ⟨w.heap.size + 1, 2, none⟩ = some (.int .u8 s) ∧ x.cell? ⟨w.heap.size + 1, 4, none⟩ = some (.int .u32 0)) ((simp [go_sem]; done)) (first | ((go_at_call 71; with_reducible refine (withPlace_any _ _ _ _ _ _ _ _ _ _ hi _).mono ?_; rintro r w1 ⟨rfl, p1, p2, p3, rfl⟩)) | ((go_at_call 70; with_reducible refine (withNumber_any _ _ _ _ _ _ _ _ _ (by decide) _).mono ?_; rintro r w1 ⟨rfl, q1, q2, rfl⟩)))
          all_goals
            go_wp2_with fail
            exact bodyPost_ret (v := arr8 (bits .or .u8 f (bitv false 1)) (i % 256) (i / 256) s (0) (0) (0) (0)) (by simp [results, Try.results37, go_sem]) rfl ⟨rfl, (by repeat (first | exact Below.refl _ _ | apply Below.drew | apply Below.al))⟩
      · have h1' : (n == 0) = false := by simpa using h1
        rw [h1']
        go_enter Try.func37, Try.ntmps37
        go_wp2_with fail
        with_reducible refine (ho _).mono ?_
        rintro r w1 ⟨rfl, o1, o2, o3, rfl⟩
        clear ho
        go_wp2_with fail
        with_reducible refine (must_false _).mono ?_
        rintro r w1 ⟨rfl, rfl⟩
        go_wp2_with fail
        exact ⟨rfl, rfl, (by repeat (first | exact Below.refl _ _ | apply Below.drew | apply Below.al))⟩
    · go_enter Try.func37, Try.ntmps37
      go_wp2_with fail
      with_reducible refine (ho _).mono ?_
      rintro r w1 ⟨rfl, o1, o2, o3, rfl⟩
      clear ho
      go_wp2_with fail
      with_reducible refine (must_true _).mono ?_
      rintro r w1 ⟨rfl, rfl⟩
      go_wp2_with fail
      go_cut [] from 5 (fun wx => wx = ((((((w.alloc (.cells (ar8 (bits .or .u8 f (bitv true 1)) (0) (0) (0) (0) (0) (0) (0)) 31)).alloc (.cells (cmC k i s true n false a len cap t l c b e u m o) 29)).alloc (.cells (ar8 0 0 0 0 0 0 0 0) 31)).alloc o1).alloc o2).alloc o3).drew)
      case first =>
        go_region_with (go_at_call 31; refine (bit_any _ _ _).mono ?_; rintro r w1 ⟨rfl, rfl⟩)
        all_goals
          go_wp2_with fail
          go_meet
          exact rfl
      case rest =>
        obtain rfl := hcut
        go_wp2_with fail
        go_region_held3 (fun x => x.cell? ⟨w.heap.size, 0, none⟩ = some (.int .u8 (bits .or .u8 f (bitv true 1))) ∧ x.cell? ⟨w.heap.size, 1, none⟩ = some (.int .u8 (0)) ∧ x.cell? ⟨w.heap.size, 2, none⟩ = some (.int .u8 (0)) ∧ x.cell? ⟨w.heap.size, 3, none⟩ = some (.int .u8 (0)) ∧ x.cell? ⟨w.heap.size, 4, none⟩ = some (.int .u8 (0)) ∧ x.cell? ⟨w.heap.size, 5, none⟩ = some (.int .u8 (0)) ∧ x.cell? ⟨w.heap.size, 6, none⟩ = some (.int .u8 (0)) ∧ x.cell? ⟨w.heap.size, 7, none⟩ = some (.int .u8 (0)) ∧ x.cell? ⟨w.heap.size + 1, 1, none⟩ = some (.int .u16 i) ∧ x.cell? ⟨w.heap.size + 1, 2, none⟩ = some (.int .u8 s) ∧ x.cell? ⟨w.heap.size + 1, 4, none⟩ = some (.int .u32 n)) ((simp [go_sem]; done)) (first | ((go_at_call 71; with_reducible refine (withPlace_any _ _ _ _ _ _ _ _ _ _ hi _).mono ?_; rintro r w1 ⟨rfl, p1, p2, p3, rfl⟩)) | ((go_at_call 70; with_reducible refine (withNumber_any _ _ _ _ _ _ _ _ _ hn _).mono ?_; rintro r w1 ⟨rfl, q1, q2, rfl⟩)))
        all_goals
          go_wp2_with fail
          exact bodyPost_ret (v := arr8 (bits .or .u8 f (bitv true 1)) (i % 256) (i / 256) s (n % 256) (n / 256 % 256) (n / 65536 % 256) (n / 16777216)) (by simp [results, Try.results37, go_sem]) rfl ⟨rfl, (by repeat (first | exact Below.refl _ _ | apply Below.drew | apply Below.al))⟩
  · simp only [if_true]
    have hq := fun W (hb : Below w.heap.size w W) => writeQuick_any f k i s z n true a len cap t l c b e u m o hi zs W (hr.next hb)
    clear hr
    obtain ⟨R, hR⟩ : ∃ R, (if onlyN i s z n true len t l c b e u m o 27 && quickOk z len then some (⟨q0 f z len, i % 256, i / 256, s, zb zs 0, zb zs 1, zb zs 2, zb zs 3⟩ : B8) else none) = R := ⟨_, rfl⟩
    rw [hR] at hq ⊢
    clear hR
    have HQ : Hid (∀ W, Below w.heap.size w W → Calls Try.prog 67 #[arr8 f 0 0 0 0 0 0 0, cmV k i s z n true a len cap t l c b e u m o] W (WPost W R)) := hq
    clear hq
    cases R with
    | none =>
      go_enter Try.func37, Try.ntmps37
      go_wp2_with fail
      with_reducible refine (HQ.out _ (by repeat (first | exact Below.refl _ _ | apply Below.drew | apply Below.al))).mono ?_
      rintro r w1 ⟨rfl, hb⟩
      have B1 : Below w.heap.size w w1 := Below.andThen (by repeat (first | exact Below.refl _ _ | apply Below.drew | apply Below.al)) hb
      clear hb
      go_wp2_with fail
      exact ⟨rfl, rfl, B1⟩
    | some x =>
      obtain ⟨x0, x1, x2, x3, x4, x5, x6, x7⟩ := x
      go_enter Try.func37, Try.ntmps37
      go_wp2_with fail
      with_reducible refine (HQ.out _ (by repeat (first | exact Below.refl _ _ | apply Below.drew | apply Below.al))).mono ?_
      rintro r w1 ⟨rfl, hb⟩
      have B1 : Below w.heap.size w w1 := Below.andThen (by repeat (first | exact Below.refl _ _ | apply Below.drew | apply Below.al)) hb
      have hg : w1.heap[w.heap.size + 1 + 1]? = some (.cells (ar8 0 0 0 0 0 0 0 0) 31 (0, 0)) := (hb.block _ (by simp)).trans (by rw [show w.heap.size + 1 + 1 = ((w.alloc (.cells (ar8 f 0 0 0 0 0 0 0) 31)).alloc (.cells (cmC k i s z n true a len cap t l c b e u m o) 29)).heap.size from by simp]; exact heap_new _ _)
      clear hb
      go_wp2_with (refine wpList_store_row rfl 31 _ _ rfl (w.heap.size + 1 + 1) (ar8 x0 x1 x2 x3 x4 x5 x6 x7) rfl rfl 31 _ hg size8 rfl (ar8_one _ _ _ _ _ _ _ _) ?_)
      have hc := fun j => cell_of_row (w1.setRow (w.heap.size + 1 + 1) (ar8 x0 x1 x2 x3 x4 x5 x6 x7)) (w.heap.size + 1 + 1) j _ _ _ (setRow_heap _ _ _ _ _ _ hg)
      refine bodyPost_ret (v := arr8 x0 x1 x2 x3 x4 x5 x6 x7) ?_ rfl ⟨rfl, below_setRow B1 (by omega) _⟩
      simp [results, Try.results37, go_sem, hc]

#print axioms writeBegin_any
end Go.Proofs.Ytchelanikhoogaa
