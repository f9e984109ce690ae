/-
  The walk of the writing of a beginning.
  The walk of the writing of a part.
-/
import Derived.Test.YtimnpdegoehblaaGreatDoorSd6
import Derived.Test.YtimnpdegoehblaaGreatDoorSi
import Derived.Test.YtimnpdegoehblaaGreatDoorSd
import Derived.Test.YtimnpdegoehblaaGreatDoorSh
import Derived.Deep.DeepCutAuto
namespace Go.Proofs.YtimnpdegoehblaaGreatDoor
open Go.RowKit

set_option linter.unusedSimpArgs false in
set_option maxHeartbeats 4000000 in
set_option maxRecDepth 100000 in
theorem writeBegin_any (f k i s : Int) (z : Bool) (n : Int) (q : Bool) (a : Option Addr) (len cap : Nat) (t l c : Bool) (b e u m o : Int) (hi : 0 ≤ i ∧ i < 65536) (hn : 0 ≤ n ∧ n < 4294967296) (zs : List Int) (w : World) (hr : Row w a len zs) :
    Calls Tryz.prog 60 #[arr8 f 0 0 0 0 0 0 0, cmV k i s z n q a len cap t l c b e u m o] w (WPost w (if q then (if onlyN i s z n q len t l c b e u m o 27 && quickOk z len then some ⟨q0 f z len, i % 256, i / 256, s, zb zs 0, zb zs 1, zb zs 2, zb zs 3⟩ else none) else (if onlyN i s z n q len t l c b e u m o 7 && (z || n == 0) then some ⟨bits .or .u8 f (bitv z 1), i % 256, i / 256, s, n % 256, n / 256 % 256, n / 65536 % 256, n / 16777216⟩ else none))) := by
  cases q
  · simp only [Bool.false_eq_true, if_false]
    clear hr
    obtain ⟨R, hR⟩ : ∃ R, onlyN i s z n false len t l c b e u m o 7 = R := ⟨_, rfl⟩
    cases R
    · rw [hR]
      have ho := fun w => only_no k i s z n false a len cap t l c b e u m o 7 (by decide) 7 rfl hR w
      clear hR
      go_enter Tryz.func60, Tryz.ntmps60
      go_wp2_with fail
      with_reducible refine (ho _).mono ?_
      rintro r w1 ⟨rfl, o1, o2, o3, rfl⟩
      clear ho
      go_wp2_with fail
      exact ⟨rfl, rfl, (by repeat (first | exact Below.refl _ _ | apply Below.drew | apply Below.al))⟩
    have ho := fun w => only_yes k i s z n false a len cap t l c b e u m o 7 (by decide) 7 rfl hR w
    rw [hR]
    clear hR
    cases z
    · by_cases h1 : n = 0
      · subst h1
        go_enter Tryz.func60, Tryz.ntmps60
        go_wp2_with fail
        with_reducible refine (ho _).mono ?_
        rintro r w1 ⟨rfl, o1, o2, o3, rfl⟩
        clear ho
        go_wp2_with fail
        with_reducible refine (must_true _).mono ?_
        rintro r w1 ⟨rfl, rfl⟩
        go_wp2_with fail
        go_cut [] from 5 (fun wx => wx = ((((((w.alloc (.cells (ar8 (bits .or .u8 f (bitv false 1)) (0) (0) (0) (0) (0) (0) (0)) 23)).alloc (.cells (cmC k i s false 0 false a len cap t l c b e u m o) 61)).alloc (.cells (ar8 0 0 0 0 0 0 0 0) 23)).alloc o1).alloc o2).alloc o3).drew)
        case first =>
          go_region_with (go_at_call 100; refine (bit_any _ _ _).mono ?_; rintro r w1 ⟨rfl, rfl⟩)
          all_goals
            go_wp2_with fail
            go_meet
            exact rfl
        case rest =>
          obtain rfl := hcut
          go_wp2_with fail
          go_region_held3 (fun x => x.cell? ⟨w.heap.size, 0, none⟩ = some (.int .u8 (bits .or .u8 f (bitv false 1))) ∧ x.cell? ⟨w.heap.size, 1, none⟩ = some (.int .u8 (0)) ∧ x.cell? ⟨w.heap.size, 2, none⟩ = some (.int .u8 (0)) ∧ x.cell? ⟨w.heap.size, 3, none⟩ = some (.int .u8 (0)) ∧ x.cell? ⟨w.heap.size, 4, none⟩ = some (.int .u8 (0)) ∧ x.cell? ⟨w.heap.size, 5, none⟩ = some (.int .u8 (0)) ∧ x.cell? ⟨w.heap.size, 6, none⟩ = some (.int .u8 (0)) ∧ x.cell? ⟨w.heap.size, 7, none⟩ = some (.int .u8 (0)) ∧ x.cell? ⟨w.heap.size + 1, 1, none⟩ = some (.int .u16 i) ∧ x.cell? ⟨w.heap.size + 1, 2, none⟩ = some (.int .u8 s) ∧ x.cell? ⟨w.heap.size + 1, 4, none⟩ = some (.int .u32 0)) ((simp [go_sem]; done)) (first | ((go_at_call 102; with_reducible refine (withPlace_any _ _ _ _ _ _ _ _ _ _ hi _).mono ?_; rintro r w1 ⟨rfl, p1, p2, p3, rfl⟩)) | ((go_at_call 101; with_reducible refine (withNumber_any _ _ _ _ _ _ _ _ _ (by decide) _).mono ?_; rintro r w1 ⟨rfl, q1, q2, rfl⟩)))
          all_goals
            go_wp2_with fail
            exact bodyPost_ret (v := arr8 (bits .or .u8 f (bitv false 1)) (i % 256) (i / 256) s (0) (0) (0) (0)) (by simp [results, Tryz.results60, go_sem]) rfl ⟨rfl, (by repeat (first | exact Below.refl _ _ | apply Below.drew | apply Below.al))⟩
      · have h1' : (n == 0) = false := by simpa using h1
        rw [h1']
        go_enter Tryz.func60, Tryz.ntmps60
        go_wp2_with fail
        with_reducible refine (ho _).mono ?_
        rintro r w1 ⟨rfl, o1, o2, o3, rfl⟩
        clear ho
        go_wp2_with fail
        with_reducible refine (must_false _).mono ?_
        rintro r w1 ⟨rfl, rfl⟩
        go_wp2_with fail
        exact ⟨rfl, rfl, (by repeat (first | exact Below.refl _ _ | apply Below.drew | apply Below.al))⟩
    · go_enter Tryz.func60, Tryz.ntmps60
      go_wp2_with fail
      with_reducible refine (ho _).mono ?_
      rintro r w1 ⟨rfl, o1, o2, o3, rfl⟩
      clear ho
      go_wp2_with fail
      with_reducible refine (must_true _).mono ?_
      rintro r w1 ⟨rfl, rfl⟩
      go_wp2_with fail
      go_cut [] from 5 (fun wx => wx = ((((((w.alloc (.cells (ar8 (bits .or .u8 f (bitv true 1)) (0) (0) (0) (0) (0) (0) (0)) 23)).alloc (.cells (cmC k i s true n false a len cap t l c b e u m o) 61)).alloc (.cells (ar8 0 0 0 0 0 0 0 0) 23)).alloc o1).alloc o2).alloc o3).drew)
      case first =>
        go_region_with (go_at_call 100; refine (bit_any _ _ _).mono ?_; rintro r w1 ⟨rfl, rfl⟩)
        all_goals
          go_wp2_with fail
          go_meet
          exact rfl
      case rest =>
        obtain rfl := hcut
        go_wp2_with fail
        go_region_held3 (fun x => x.cell? ⟨w.heap.size, 0, none⟩ = some (.int .u8 (bits .or .u8 f (bitv true 1))) ∧ x.cell? ⟨w.heap.size, 1, none⟩ = some (.int .u8 (0)) ∧ x.cell? ⟨w.heap.size, 2, none⟩ = some (.int .u8 (0)) ∧ x.cell? ⟨w.heap.size, 3, none⟩ = some (.int .u8 (0)) ∧ x.cell? ⟨w.heap.size, 4, none⟩ = some (.int .u8 (0)) ∧ x.cell? ⟨w.heap.size, 5, none⟩ = some (.int .u8 (0)) ∧ x.cell? ⟨w.heap.size, 6, none⟩ = some (.int .u8 (0)) ∧ x.cell? ⟨w.heap.size, 7, none⟩ = some (.int .u8 (0)) ∧ x.cell? ⟨w.heap.size + 1, 1, none⟩ = some (.int .u16 i) ∧ x.cell? ⟨w.heap.size + 1, 2, none⟩ = some (.int .u8 s) ∧ x.cell? ⟨w.heap.size + 1, 4, none⟩ = some (.int .u32 n)) ((simp [go_sem]; done)) (first | ((go_at_call 102; with_reducible refine (withPlace_any _ _ _ _ _ _ _ _ _ _ hi _).mono ?_; rintro r w1 ⟨rfl, p1, p2, p3, rfl⟩)) | ((go_at_call 101; with_reducible refine (withNumber_any _ _ _ _ _ _ _ _ _ hn _).mono ?_; rintro r w1 ⟨rfl, q1, q2, rfl⟩)))
        all_goals
          go_wp2_with fail
          exact bodyPost_ret (v := arr8 (bits .or .u8 f (bitv true 1)) (i % 256) (i / 256) s (n % 256) (n / 256 % 256) (n / 65536 % 256) (n / 16777216)) (by simp [results, Tryz.results60, go_sem]) rfl ⟨rfl, (by repeat (first | exact Below.refl _ _ | apply Below.drew | apply Below.al))⟩
  · simp only [if_true]
    have hq := fun W (hb : Below w.heap.size w W) => writeQuick_any f k i s z n true a len cap t l c b e u m o hi zs W (hr.next hb)
    clear hr
    obtain ⟨R, hR⟩ : ∃ R, (if onlyN i s z n true len t l c b e u m o 27 && quickOk z len then some (⟨q0 f z len, i % 256, i / 256, s, zb zs 0, zb zs 1, zb zs 2, zb zs 3⟩ : B8) else none) = R := ⟨_, rfl⟩
    rw [hR] at hq ⊢
    clear hR
    have HQ : Hid (∀ W, Below w.heap.size w W → Calls Tryz.prog 97 #[arr8 f 0 0 0 0 0 0 0, cmV k i s z n true a len cap t l c b e u m o] W (WPost W R)) := hq
    clear hq
    cases R with
    | none =>
      go_enter Tryz.func60, Tryz.ntmps60
      go_wp2_with fail
      with_reducible refine (HQ.out _ (by repeat (first | exact Below.refl _ _ | apply Below.drew | apply Below.al))).mono ?_
      rintro r w1 ⟨rfl, hb⟩
      have B1 : Below w.heap.size w w1 := Below.andThen (by repeat (first | exact Below.refl _ _ | apply Below.drew | apply Below.al)) hb
      clear hb
      go_wp2_with fail
      exact ⟨rfl, rfl, B1⟩
    | some x =>
      obtain ⟨x0, x1, x2, x3, x4, x5, x6, x7⟩ := x
      go_enter Tryz.func60, Tryz.ntmps60
      go_wp2_with fail
      with_reducible refine (HQ.out _ (by repeat (first | exact Below.refl _ _ | apply Below.drew | apply Below.al))).mono ?_
      rintro r w1 ⟨rfl, hb⟩
      have B1 : Below w.heap.size w w1 := Below.andThen (by repeat (first | exact Below.refl _ _ | apply Below.drew | apply Below.al)) hb
      have hg : w1.heap[w.heap.size + 1 + 1]? = some (.cells (ar8 0 0 0 0 0 0 0 0) 23 (0, 0)) := (hb.block _ (by simp)).trans (by rw [show w.heap.size + 1 + 1 = ((w.alloc (.cells (ar8 f 0 0 0 0 0 0 0) 23)).alloc (.cells (cmC k i s z n true a len cap t l c b e u m o) 61)).heap.size from by simp]; exact heap_new _ _)
      clear hb
      go_wp2_with (refine wpList_store_row rfl 23 _ _ rfl (w.heap.size + 1 + 1) (ar8 x0 x1 x2 x3 x4 x5 x6 x7) rfl rfl 23 _ hg size8 rfl (ar8_one _ _ _ _ _ _ _ _) ?_)
      have hc := fun j => cell_of_row (w1.setRow (w.heap.size + 1 + 1) (ar8 x0 x1 x2 x3 x4 x5 x6 x7)) (w.heap.size + 1 + 1) j _ _ _ (setRow_heap _ _ _ _ _ _ hg)
      refine bodyPost_ret (v := arr8 x0 x1 x2 x3 x4 x5 x6 x7) ?_ rfl ⟨rfl, below_setRow B1 (by omega) _⟩
      simp [results, Tryz.results60, go_sem, hc]

#print axioms writeBegin_any
end Go.Proofs.YtimnpdegoehblaaGreatDoor
namespace Go.Proofs.YtimnpdegoehblaaGreatDoor
open Go.RowKit

/-- A part's first byte. -/
def p0 (f : Int) (t l : Bool) (len : Nat) : Int := bits .or .u8 f (bits .or .u8 (bits .or .u8 (bitv t 16) ((7 - (len : Int)) * 2)) (bitv l 1))

set_option linter.unusedSimpArgs false in
set_option maxHeartbeats 4000000 in
set_option maxRecDepth 100000 in
theorem writePart_any (f k i s : Int) (z : Bool) (n : Int) (q : Bool) (a : Option Addr) (len cap : Nat) (t l c : Bool) (b e u m o : Int) (zs : List Int) (w : World) (hr : Row w a len zs) :
    Calls Tryz.prog 62 #[arr8 f 0 0 0 0 0 0 0, cmV k i s z n q a len cap t l c b e u m o] w (WPost w (if onlyN i s z n q len t l c b e u m o 112 && fits (len : Int) l then some ⟨p0 f t l len, zb zs 0, zb zs 1, zb zs 2, zb zs 3, zb zs 4, zb zs 5, zb zs 6⟩ else none)) := by
  obtain ⟨R, hR⟩ : ∃ R, onlyN i s z n q len t l c b e u m o 112 = R := ⟨_, rfl⟩
  cases R
  · rw [hR]
    have ho := fun w => only_no k i s z n q a len cap t l c b e u m o 112 (by decide) 112 rfl hR w
    clear hR hr
    go_enter Tryz.func62, Tryz.ntmps62
    go_wp2_with fail
    with_reducible refine (ho _).mono ?_
    rintro r w1 ⟨rfl, o1, o2, o3, rfl⟩
    clear ho
    go_wp2_with fail
    exact ⟨rfl, rfl, (by repeat (first | exact Below.refl _ _ | apply Below.drew | apply Below.al))⟩
  have ho := fun w => only_yes k i s z n q a len cap t l c b e u m o 112 (by decide) 112 rfl hR w
  rw [hR]
  clear hR
  obtain ⟨F, hF⟩ : ∃ F, fits (len : Int) l = F := ⟨_, rfl⟩
  cases F
  · rw [hF]
    clear hr
    go_enter Tryz.func62, Tryz.ntmps62
    go_wp2_with fail
    with_reducible refine (ho _).mono ?_
    rintro r w1 ⟨rfl, o1, o2, o3, rfl⟩
    clear ho
    go_wp2_with fail
    with_reducible refine (fitsPart_any _ _ _).mono ?_
    rintro r w1 ⟨rfl, rfl⟩
    go_wp2_with fail
    with_reducible refine (must_false _).mono ?_
    rintro r w1 ⟨rfl, rfl⟩
    go_wp2_with fail
    exact ⟨rfl, rfl, (by repeat (first | exact Below.refl _ _ | apply Below.drew | apply Below.al))⟩
  have h7 : len ≤ 7 := by
    simp only [fits, Bool.or_eq_true, beq_iff_eq, Bool.and_eq_true, decide_eq_true_eq] at hF
    omega
  have hs := hr.size
  have hcp := fun ty o1 o2 o3 B => copy_chain ty w (ar8 B 0 0 0 0 0 0 0) (ar8 B (zb zs 0) (zb zs 1) (zb zs 2) (zb zs 3) (zb zs 4) (zb zs 5) (zb zs 6)) (.cells (cmC k i s z n q a len cap t l c b e u m o) 61) (.cells (ar8 0 0 0 0 0 0 0 0) 23) o1 o2 o3 1 7 7 a len cap zs hr (by omega) (by simp) (over8_1 _ zs (by omega))
  have e0 : IntKind.i64.wrap (7 - (len : Int)) = 7 - (len : Int) := by simp [IntKind.wrap, IntKind.bits, IntKind.signed]; omega
  have e1 : IntKind.u8.wrap (7 - (len : Int)) = 7 - (len : Int) := by rw [wrap8]; omega
  have e2 : IntKind.u8.wrap ((7 - (len : Int)) * 2) = (7 - (len : Int)) * 2 := by rw [wrap8]; omega
  rw [hF]
  clear hr hs
  obtain ⟨z0, hz0⟩ : ∃ z, zb zs 0 = z := ⟨_, rfl⟩
  obtain ⟨z1, hz1⟩ : ∃ z, zb zs 1 = z := ⟨_, rfl⟩
  obtain ⟨z2, hz2⟩ : ∃ z, zb zs 2 = z := ⟨_, rfl⟩
  obtain ⟨z3, hz3⟩ : ∃ z, zb zs 3 = z := ⟨_, rfl⟩
  obtain ⟨z4, hz4⟩ : ∃ z, zb zs 4 = z := ⟨_, rfl⟩
  obtain ⟨z5, hz5⟩ : ∃ z, zb zs 5 = z := ⟨_, rfl⟩
  obtain ⟨z6, hz6⟩ : ∃ z, zb zs 6 = z := ⟨_, rfl⟩
  rw [hz0, hz1, hz2, hz3, hz4, hz5, hz6] at hcp ⊢
  clear hz0 hz1 hz2 hz3 hz4 hz5 hz6
  show Calls _ _ _ _ (WPost w (some ⟨bits .or .u8 f (bits .or .u8 (bits .or .u8 (bitv t 16) ((7 - (len : Int)) * 2)) (bitv l 1)), z0, z1, z2, z3, z4, z5, z6⟩))
  go_enter Tryz.func62, Tryz.ntmps62
  go_wp2_with fail
  with_reducible refine (ho _).mono ?_
  rintro r w1 ⟨rfl, o1, o2, o3, rfl⟩
  clear ho
  go_wp2_with fail
  with_reducible refine (fitsPart_any _ _ _).mono ?_
  rintro r w1 ⟨rfl, rfl⟩
  go_wp2_with fail
  with_reducible refine (must_true _).mono ?_
  rintro r w1 ⟨rfl, rfl⟩
  go_wp2_with fail
  go_cut [5] from 6 (fun s5 wx => s5 = .int .i64 (len : Int) ∧ wx = ((((((w.alloc (.cells (ar8 (bits .or .u8 f (bits .or .u8 (bits .or .u8 (bitv t 16) ((7 - (len : Int)) * 2)) (bitv l 1))) 0 0 0 0 0 0 0) 23)).alloc (.cells (cmC k i s z n q a len cap t l c b e u m o) 61)).alloc (.cells (ar8 0 0 0 0 0 0 0 0) 23)).alloc o1).alloc o2).alloc o3).drew)
  case first =>
    go_region_with (go_at_call 100; refine (bit_any _ _ _).mono ?_; rintro r w1 ⟨rfl, rfl⟩)
    all_goals
      go_wp2_with fail
      go_meet
      exact ⟨rfl, rfl⟩
  case rest =>
    obtain ⟨rfl, rfl⟩ := hcut
    go_wp2_with fail
    go_region
    all_goals
      go_wp2_with fail
      exact bodyPost_ret (v := arr8 (bits .or .u8 f (bits .or .u8 (bits .or .u8 (bitv t 16) ((7 - (len : Int)) * 2)) (bitv l 1))) z0 z1 z2 z3 z4 z5 z6) (by simp [results, Tryz.results62, go_sem]) rfl ⟨rfl, (by repeat (first | exact Below.refl _ _ | apply Below.drew | apply Below.al))⟩

#print axioms writePart_any
end Go.Proofs.YtimnpdegoehblaaGreatDoor
