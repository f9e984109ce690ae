/-
  SyncStamps of any time of day and any frame.
-/
import Derived.Test.YtlijkgkkoahajaaYs
namespace Go.Proofs.Ytlijkgkkoahajaa
open Go.RowKit

theorem st_zero (id : Int) : stB 0 0 0 0 0 0 0 0 0 0 false id = false := by
  unfold stB sameF
  simp
theorem st_back {id days ms : Int} (hi : id ≤ 2047) (h : ms < 86400000) :
    msF (ms % 256) (ms / 256 % 256) (ms / 65536 % 256) (ms / 16777216) = ms ∧ dyF (days % 256) (days / 256) = days ∧ stB id 6 (ms % 256) (ms / 256 % 256) (ms / 65536 % 256) (ms / 16777216) (days % 256) (days / 256) 0 0 false id = true := by
  have e1 : msF (ms % 256) (ms / 256 % 256) (ms / 65536 % 256) (ms / 16777216) = ms := by unfold msF; omega
  have e2 : dyF (days % 256) (days / 256) = days := by unfold dyF; omega
  refine ⟨e1, e2, ?_⟩
  unfold stB
  rw [e1, e2, decide_eq_true hi, decide_eq_true h, sameF_self]
  rfl

set_option linter.unusedSimpArgs false in
set_option maxHeartbeats 4000000 in
set_option maxRecDepth 100000 in
theorem stamps_ok (id days ms i n d0 d1 d2 d3 d4 d5 d6 d7 : Int) (r : Bool) (w : World) (a b e0 e1 e2 e3 e4 e5 e6 e7 : Int) (g : Bool) (x y : Int) (q : Bool)
    (SA : ∀ W, Calls Try.prog 26 #[.int .u16 id, .int .u16 days, .int .u32 ms] W fun e w' => e = .returned (.tuple #[frV a b e0 e1 e2 e3 e4 e5 e6 e7 g, .int .i64 0]) ∧ Below W.heap.size W w')
    (SU : ∀ W, Calls Try.prog 27 #[.int .u16 id, .int .u16 days, .int .u32 ms] W fun e w' => e = .returned (.tuple #[frV a b e0 e1 e2 e3 e4 e5 e6 e7 g, .int .i64 0]) ∧ Below W.heap.size W w')
    (TA : ∀ W, Calls Try.prog 28 #[frV i n d0 d1 d2 d3 d4 d5 d6 d7 r, .int .u16 id] W fun e w' => e = .returned (.tuple #[.int .u16 x, .int .u32 y, .bool q]) ∧ Below W.heap.size W w')
    (TU : ∀ W, Calls Try.prog 29 #[frV i n d0 d1 d2 d3 d4 d5 d6 d7 r, .int .u16 id] W fun e w' => e = .returned (.tuple #[.int .u16 x, .int .u32 y, .bool q]) ∧ Below W.heap.size W w')
    (TB : ∀ W, Calls Try.prog 28 #[frV a b e0 e1 e2 e3 e4 e5 e6 e7 g, .int .u16 id] W fun e w' => e = .returned (.tuple #[.int .u16 days, .int .u32 ms, .bool true]) ∧ Below W.heap.size W w') :
    Calls Try.prog 6 #[.int .u16 id, .int .u16 days, .int .u32 ms, frV i n d0 d1 d2 d3 d4 d5 d6 d7 r] w fun e w' => e = .returned (.bool true) ∧ Below w.heap.size w w' := by
  have hq : ∀ W : World, (binOp .neq 39 (frV a b e0 e1 e2 e3 e4 e5 e6 e7 g) (frV a b e0 e1 e2 e3 e4 e5 e6 e7 g)).run Try.prog W = .ok (.bool false) W := fun W => by rw [neqF, sameF_self]; rfl
  go_enter Try.func6, Try.ntmps6
  go_wp2_with fail
  refine (SA _).mono ?_
  rintro e w1 ⟨rfl, b1⟩
  have B1 : Below w.heap.size w w1 := Below.andThen (by repeat (first | exact Below.refl _ _ | apply Below.drew | apply Below.al)) b1
  have F1 : w1.heap[w.heap.size]? = some (.cells (frC i n d0 d1 d2 d3 d4 d5 d6 d7 r) 39 (0, 0)) := (b1.block _ (by simp)).trans (by repeat (first | exact at11 _ _ _ (by simp) | assumption | refine ext11 ?_))
  clear b1 SA
  go_wp2_with fail
  refine (SU _).mono ?_
  rintro e w2 ⟨rfl, b2⟩
  have B2 : Below w.heap.size w w2 := Below.andThen (Below.al B1 _) b2
  have F2 := blk11 b2 (ext11 (o := .cells (frC a b e0 e1 e2 e3 e4 e5 e6 e7 g) 39) F1)
  have A2 := blk11 b2 (at11 w1 (.cells (frC a b e0 e1 e2 e3 e4 e5 e6 e7 g) 39) w1.heap.size rfl)
  have l1 : w.heap.size < w1.heap.size := lt_of_heap F1
  have l2 : w1.heap.size < w2.heap.size := lt_of_heap A2
  clear b2 F1 SU
  have F2c := frC_at F2
  obtain ⟨f0, f1, f2, f3, f4, f5, f6, f7, f8, f9, f10⟩ := F2c
  have lw2 : w.heap.size < w2.heap.size := lt_of_heap F2
  go_wp2_with fail
  refine (TA _).mono ?_
  rintro e w3 ⟨rfl, b3⟩
  have B3 : Below w.heap.size w w3 := Below.andThen (Below.al B2 _) b3
  have F3 := blk11 b3 (ext11 (o := .cells (frC a b e0 e1 e2 e3 e4 e5 e6 e7 g) 39) F2)
  have A3 := blk11 b3 (ext11 (o := .cells (frC a b e0 e1 e2 e3 e4 e5 e6 e7 g) 39) A2)
  have U3 := blk11 b3 (at11 w2 (.cells (frC a b e0 e1 e2 e3 e4 e5 e6 e7 g) 39) w2.heap.size rfl)
  clear b3 F2 A2 TA f0 f1 f2 f3 f4 f5 f6 f7 f8 f9 f10 lw2
  obtain ⟨f0, f1, f2, f3, f4, f5, f6, f7, f8, f9, f10⟩ := frC_at F3
  have lw3 : w.heap.size < w3.heap.size := lt_of_heap F3
  go_wp2_with fail
  refine (TU _).mono ?_
  rintro e w4 ⟨rfl, b4⟩
  have B4 : Below w.heap.size w w4 := Below.andThen B3 b4
  have A4 := blk11 b4 A3
  have U4 := blk11 b4 U3
  clear b4 F3 A3 U3 TU f0 f1 f2 f3 f4 f5 f6 f7 f8 f9 f10 lw3
  obtain ⟨f0, f1, f2, f3, f4, f5, f6, f7, f8, f9, f10⟩ := frC_at A4
  obtain ⟨u0, u1, u2, u3, u4, u5, u6, u7, u8, u9, u10⟩ := frC_at U4
  have lw4 : w1.heap.size < w4.heap.size := lt_of_heap A4
  have lv4 : w2.heap.size < w4.heap.size := lt_of_heap U4
  go_wp2_with fail
  refine (TB _).mono ?_
  rintro e w5 ⟨rfl, b5⟩
  have B5 : Below w.heap.size w w5 := Below.andThen B4 b5
  clear b5 TB A4 U4
  go_wp2_with fail
  refine (works_any _).mono ?_
  rintro e w6 ⟨rfl, b6⟩
  go_wp2_with fail
  go_ret
  exact ⟨rfl, Below.andThen B5 b6⟩
set_option linter.unusedSimpArgs false in
set_option maxHeartbeats 4000000 in
set_option maxRecDepth 100000 in
theorem stamps_bad (id days ms i n d0 d1 d2 d3 d4 d5 d6 d7 : Int) (r : Bool) (w : World) (a b e0 e1 e2 e3 e4 e5 e6 e7 : Int) (g : Bool) (x y : Int) (q : Bool)
    (SA : ∀ W, Calls Try.prog 26 #[.int .u16 id, .int .u16 days, .int .u32 ms] W fun e w' => e = .returned (.tuple #[frV a b e0 e1 e2 e3 e4 e5 e6 e7 g, .int .i64 2]) ∧ Below W.heap.size W w')
    (SU : ∀ W, Calls Try.prog 27 #[.int .u16 id, .int .u16 days, .int .u32 ms] W fun e w' => e = .returned (.tuple #[frV a b e0 e1 e2 e3 e4 e5 e6 e7 g, .int .i64 2]) ∧ Below W.heap.size W w')
    (TA : ∀ W, Calls Try.prog 28 #[frV i n d0 d1 d2 d3 d4 d5 d6 d7 r, .int .u16 id] W fun e w' => e = .returned (.tuple #[.int .u16 x, .int .u32 y, .bool q]) ∧ Below W.heap.size W w')
    (TU : ∀ W, Calls Try.prog 29 #[frV i n d0 d1 d2 d3 d4 d5 d6 d7 r, .int .u16 id] W fun e w' => e = .returned (.tuple #[.int .u16 x, .int .u32 y, .bool q]) ∧ Below W.heap.size W w')
    (TB : ∀ W, Calls Try.prog 28 #[frV a b e0 e1 e2 e3 e4 e5 e6 e7 g, .int .u16 id] W fun e w' => e = .returned (.tuple #[.int .u16 0, .int .u32 0, .bool false]) ∧ Below W.heap.size W w') :
    Calls Try.prog 6 #[.int .u16 id, .int .u16 days, .int .u32 ms, frV i n d0 d1 d2 d3 d4 d5 d6 d7 r] w fun e w' => e = .returned (.bool true) ∧ Below w.heap.size w w' := by
  have hq : ∀ W : World, (binOp .neq 39 (frV a b e0 e1 e2 e3 e4 e5 e6 e7 g) (frV a b e0 e1 e2 e3 e4 e5 e6 e7 g)).run Try.prog W = .ok (.bool false) W := fun W => by rw [neqF, sameF_self]; rfl
  go_enter Try.func6, Try.ntmps6
  go_wp2_with fail
  refine (SA _).mono ?_
  rintro e w1 ⟨rfl, b1⟩
  have B1 : Below w.heap.size w w1 := Below.andThen (by repeat (first | exact Below.refl _ _ | apply Below.drew | apply Below.al)) b1
  have F1 : w1.heap[w.heap.size]? = some (.cells (frC i n d0 d1 d2 d3 d4 d5 d6 d7 r) 39 (0, 0)) := (b1.block _ (by simp)).trans (by repeat (first | exact at11 _ _ _ (by simp) | assumption | refine ext11 ?_))
  clear b1 SA
  go_wp2_with fail
  refine (SU _).mono ?_
  rintro e w2 ⟨rfl, b2⟩
  have B2 : Below w.heap.size w w2 := Below.andThen (Below.al B1 _) b2
  have F2 := blk11 b2 (ext11 (o := .cells (frC a b e0 e1 e2 e3 e4 e5 e6 e7 g) 39) F1)
  have A2 := blk11 b2 (at11 w1 (.cells (frC a b e0 e1 e2 e3 e4 e5 e6 e7 g) 39) w1.heap.size rfl)
  have l1 : w.heap.size < w1.heap.size := lt_of_heap F1
  have l2 : w1.heap.size < w2.heap.size := lt_of_heap A2
  clear b2 F1 SU
  have F2c := frC_at F2
  obtain ⟨f0, f1, f2, f3, f4, f5, f6, f7, f8, f9, f10⟩ := F2c
  have lw2 : w.heap.size < w2.heap.size := lt_of_heap F2
  go_wp2_with fail
  refine (TA _).mono ?_
  rintro e w3 ⟨rfl, b3⟩
  have B3 : Below w.heap.size w w3 := Below.andThen (Below.al B2 _) b3
  have F3 := blk11 b3 (ext11 (o := .cells (frC a b e0 e1 e2 e3 e4 e5 e6 e7 g) 39) F2)
  have A3 := blk11 b3 (ext11 (o := .cells (frC a b e0 e1 e2 e3 e4 e5 e6 e7 g) 39) A2)
  have U3 := blk11 b3 (at11 w2 (.cells (frC a b e0 e1 e2 e3 e4 e5 e6 e7 g) 39) w2.heap.size rfl)
  clear b3 F2 A2 TA f0 f1 f2 f3 f4 f5 f6 f7 f8 f9 f10 lw2
  obtain ⟨f0, f1, f2, f3, f4, f5, f6, f7, f8, f9, f10⟩ := frC_at F3
  have lw3 : w.heap.size < w3.heap.size := lt_of_heap F3
  go_wp2_with fail
  refine (TU _).mono ?_
  rintro e w4 ⟨rfl, b4⟩
  have B4 : Below w.heap.size w w4 := Below.andThen B3 b4
  have A4 := blk11 b4 A3
  have U4 := blk11 b4 U3
  clear b4 F3 A3 U3 TU f0 f1 f2 f3 f4 f5 f6 f7 f8 f9 f10 lw3
  obtain ⟨f0, f1, f2, f3, f4, f5, f6, f7, f8, f9, f10⟩ := frC_at A4
  obtain ⟨u0, u1, u2, u3, u4, u5, u6, u7, u8, u9, u10⟩ := frC_at U4
  have lw4 : w1.heap.size < w4.heap.size := lt_of_heap A4
  have lv4 : w2.heap.size < w4.heap.size := lt_of_heap U4
  go_wp2_with fail
  refine (TB _).mono ?_
  rintro e w5 ⟨rfl, b5⟩
  have B5 : Below w.heap.size w w5 := Below.andThen B4 b5
  clear b5 TB A4 U4
  go_wp2_with fail
  refine (works_any _).mono ?_
  rintro e w6 ⟨rfl, b6⟩
  go_wp2_with fail
  go_ret
  exact ⟨rfl, Below.andThen B5 b6⟩

theorem syncStamps_any (id days ms i n d0 d1 d2 d3 d4 d5 d6 d7 : Int) (r : Bool) (ho : Oct [d0, d1, d2, d3, d4, d5, d6, d7]) (h0 : 0 ≤ ms) (hd : 0 ≤ days ∧ days < 65536) (w : World) : Calls Try.prog 6 #[.int .u16 id, .int .u16 days, .int .u32 ms, frV i n d0 d1 d2 d3 d4 d5 d6 d7 r] w fun e w' => e = .returned (.bool true) ∧ Below w.heap.size w w' := by
  have TA := fun W => stamped_any i n d0 d1 d2 d3 d4 d5 d6 d7 r id ho W
  have TU := fun W => ustamped_any i n d0 d1 d2 d3 d4 d5 d6 d7 r id ho W
  by_cases h : 2047 < id ∨ 86400000 ≤ ms
  · have TB := fun W => stamped_any 0 0 0 0 0 0 0 0 0 0 false id (fun n hn => by simp at hn; omega) W
    rw [st_zero] at TB
    exact stamps_bad id days ms i n d0 d1 d2 d3 d4 d5 d6 d7 r w 0 0 0 0 0 0 0 0 0 0 false _ _ _ (fun W => stamp_bad id days ms h h0 hd W) (fun W => ustamp_bad id days ms h W) TA TU TB
  · have hi : id ≤ 2047 := by omega
    have hm : ms < 86400000 := by omega
    obtain ⟨e1, e2, e3⟩ := st_back (days := days) hi hm
    have OC := oct_six days ms hm h0 hd
    have TB := fun W => stamped_any id 6 (ms % 256) (ms / 256 % 256) (ms / 65536 % 256) (ms / 16777216) (days % 256) (days / 256) 0 0 false id (fun n hn => by
      simp only [List.mem_cons, List.not_mem_nil, or_false] at hn
      rcases hn with rfl | rfl | rfl | rfl | rfl | rfl | rfl | rfl <;> first | omega | (constructor <;> omega)) W
    rw [e1, e2, e3] at TB
    exact stamps_ok id days ms i n d0 d1 d2 d3 d4 d5 d6 d7 r w _ _ _ _ _ _ _ _ _ _ _ _ _ _ (fun W => stamp_ok id days ms hi hm h0 hd W) (fun W => ustamp_ok id days ms hi hm h0 hd W) TA TU TB
#print axioms syncStamps_any
end Go.Proofs.Ytlijkgkkoahajaa
