/-
  Openings that are refused; journals that are not there.
  An opening where the power is off.
  For JournalKnown: a journal whose groups are known, in memory; a power that goes at once.
-/
import Derived.Test.YtgpbmccjcjoijaaKtc
import Derived.Test.YtgpbmccjcjoijaaKjt
import Derived.Laws.OwnMore
namespace Go.Proofs.Ytgpbmccjcjoijaa
open Go.RowKit

set_option linter.unusedSimpArgs false in
set_option maxHeartbeats 4000000 in
set_option maxRecDepth 100000 in
theorem rread_off {w : World} {p B n cap : Nat} {s : FS} (h : IsS w p B n cap s) (ho : s.of = true) (first k : Nat) (hk : 1 ≤ k) (hf : first + k ≤ n) :
    Calls Try.prog 52 #[.agg #[.pointer (some ⟨p, 0, none⟩), .int .i64 first, .int .i64 k]] w fun e w' => e = .returned (.tuple #[.slice none 0 0, .int .i64 7]) ∧ Below w.heap.size w w' := by
  have hn2 := h.n2
  have B1 : Below w.heap.size w (w.alloc (.cells #[.pointer (some ⟨p, 0, none⟩), .int .i64 (first : Int), .int .i64 (k : Int)] 62)) := Below.al (Below.refl _ _) _
  have CR := read_bad (h.next B1) (first : Int) (by rw [ho, refE_off]; decide)
  rw [ho, refE_off] at CR
  have gf : (first : Int) + k ≤ n := by omega
  have gn : (n : Int) ≤ 64 := by omega
  have gk : (0 : Int) < (k : Int) := by omega
  have X1 : (w.alloc (.cells #[.pointer (some ⟨p, 0, none⟩), .int .i64 (first : Int), .int .i64 (k : Int)] 62)).heap[w.heap.size]? = some (.cells #[.pointer (some ⟨p, 0, none⟩), .int .i64 (first : Int), .int .i64 (k : Int)] 62 (0, 0)) := heap_alloc_new w _
  have c0 : (w.alloc (.cells #[.pointer (some ⟨p, 0, none⟩), .int .i64 (first : Int), .int .i64 (k : Int)] 62)).cell? ⟨w.heap.size, 0, none⟩ = some (.pointer (some ⟨p, 0, none⟩)) := by rw [cell_of_row _ _ _ _ _ _ X1]; rfl
  have c1 : (w.alloc (.cells #[.pointer (some ⟨p, 0, none⟩), .int .i64 (first : Int), .int .i64 (k : Int)] 62)).cell? ⟨w.heap.size, 1, none⟩ = some (.int .i64 (first : Int)) := by rw [cell_of_row _ _ _ _ _ _ X1]; rfl
  have HB1 : Hid (Below w.heap.size w (w.alloc (.cells #[.pointer (some ⟨p, 0, none⟩), .int .i64 (first : Int), .int .i64 (k : Int)] 62))) := B1
  clear h ho X1 B1
  go_enter Try.func52, Try.ntmps52
  go_wp2_with fail
  generalize (w.alloc (.cells #[.pointer (some ⟨p, 0, none⟩), .int .i64 (first : Int), .int .i64 (k : Int)] 62)) = X at *
  go_loopw [4, 10] (fun v u wr => v = .slice none 0 0 ∧ u = .int .i64 0 ∧ wr = X) (fun _ _ _ => 0)
  case atStart => exact ⟨rfl, rfl, rfl⟩
  case round =>
    obtain ⟨rfl, rfl, rfl⟩ := hrel
    go_wp2_with fail
    with_reducible refine CR.mono ?_
    rintro e wr ⟨rfl, rfl⟩
    clear CR
    go_wp2_with fail
    go_ret2
    exact ⟨rfl, HB1.out⟩
#print axioms rread_off

set_option linter.unusedSimpArgs false in
set_option maxHeartbeats 4000000 in
set_option maxRecDepth 100000 in
theorem open_nil (w : World) (f c : Int) :
    Calls Try.prog 11 #[.pointer none, .int .i64 f, .int .i64 c] w fun e w' => e = .returned (.tuple #[.pointer none, .int .i64 1]) ∧ w' = w := by
  go_enter Try.func11, Try.ntmps11
  go_wp2_with fail
  go_ret2
  exact ⟨rfl, rfl⟩

set_option linter.unusedSimpArgs false in
set_option maxHeartbeats 4000000 in
set_option maxRecDepth 100000 in
theorem open_bad {w : World} {p B n cap : Nat} {s : FS} (h : IsS w p B n cap s) (f c : Int) (hb : f < 0 ∨ c < 2 ∨ (f ≤ 64 ∧ (n : Int) - f < c)) :
    Calls Try.prog 11 #[.pointer (some ⟨p, 0, none⟩), .int .i64 f, .int .i64 c] w fun e w' => e = .returned (.tuple #[.pointer none, .int .i64 2]) ∧ w' = w := by
  have SE := sectors_any h
  have hn2 := h.n2
  have gn : (n : Int) ≤ 64 := by omega
  have gn0 : (0 : Int) ≤ n := by omega
  clear h
  by_cases h1 : f < 0
  · go_enter Try.func11, Try.ntmps11
    go_wp2_with fail
    go_ret2
    exact ⟨rfl, rfl⟩
  by_cases h2 : c < 2
  · go_enter Try.func11, Try.ntmps11
    go_wp2_with fail
    go_ret2
    exact ⟨rfl, rfl⟩
  have h3 : f ≤ 64 ∧ (n : Int) - f < c := by omega
  have h4 := h3.1
  have h5 := h3.2
  have h6 : c > (n : Int) - f := by omega
  clear hb h3
  go_enter Try.func11, Try.ntmps11
  go_wp2_with fail
  with_reducible refine SE.mono ?_
  rintro e w ⟨rfl, rfl⟩
  clear SE
  go_wp2_with fail
  go_ret2
  exact ⟨rfl, rfl⟩

set_option linter.unusedSimpArgs false in
set_option maxHeartbeats 4000000 in
set_option maxRecDepth 100000 in
theorem store_nil (w : World) (g : Int) (a : Option Addr) (l c : Nat) :
    Calls Try.prog 17 #[.pointer none, .int .u8 g, .slice a l c] w fun e w' => e = .returned (.int .i64 1) ∧ w' = w := by
  go_enter Try.func17, Try.ntmps17
  go_wp2_with fail
  go_ret
  exact ⟨rfl, rfl⟩

set_option linter.unusedSimpArgs false in
set_option maxHeartbeats 4000000 in
set_option maxRecDepth 100000 in
theorem restore_nil (w : World) (g : Int) :
    Calls Try.prog 13 #[.pointer none, .int .u8 g] w fun e w' => e = .returned (.int .i64 1) ∧ w' = w := by
  go_enter Try.func13, Try.ntmps13
  go_wp2_with fail
  go_ret
  exact ⟨rfl, rfl⟩

set_option linter.unusedSimpArgs false in
set_option maxHeartbeats 4000000 in
set_option maxRecDepth 100000 in
theorem load_nil (w : World) (g : Int) :
    Calls Try.prog 29 #[.pointer none, .int .u8 g] w fun e w' => e = .returned (.tuple #[.slice none 0 0, .bool false]) ∧ w' = w := by
  go_enter Try.func29, Try.ntmps29
  go_wp2_with fail
  go_ret2
  exact ⟨rfl, rfl⟩

set_option linter.unusedSimpArgs false in
set_option maxHeartbeats 4000000 in
set_option maxRecDepth 100000 in
theorem groups_nil (w : World) :
    Calls Try.prog 28 #[.pointer none] w fun e w' => e = .returned (.slice none 0 0) ∧ w' = w := by
  go_enter Try.func28, Try.ntmps28
  go_wp2_with fail
  go_ret
  exact ⟨rfl, rfl⟩
#print axioms open_bad
#print axioms groups_nil
end Go.Proofs.Ytgpbmccjcjoijaa
namespace Go.Proofs.Ytgpbmccjcjoijaa
open Go.RowKit

set_option linter.unusedSimpArgs false in
set_option maxHeartbeats 4000000 in
set_option maxRecDepth 100000 in
theorem lookAt_off {w : World} {p B n cap : Nat} {s : FS} (h : IsS w p B n cap s) (ho : s.of = true) (first k : Nat) (hk : 1 ≤ k) (hf : first + k ≤ n) :
    Calls Try.prog 33 #[.agg #[.pointer (some ⟨p, 0, none⟩), .int .i64 first, .int .i64 k]] w fun e w' => e = .returned (.tuple #[.agg #[.pointer none, .int .i64 0, .int .i64 0, .bool false, .int .u8 0, .int .i64 0], .agg z48, .int .i64 7]) ∧ Below w.heap.size w w' := by
  have BW1 : Below w.heap.size w (((w.alloc (.cells #[.pointer (some ⟨p, 0, none⟩), .int .i64 (first : Int), .int .i64 (k : Int)] 62)).alloc (.cells #[.pointer none, .int .i64 0, .int .i64 0, .bool false, .int .u8 0, .int .i64 0] 64)).alloc (.cells z48 68)) := Below.al (Below.al (Below.al (Below.refl _ _) _) _) _
  have RD := rread_off (h.next BW1) ho first k hk hf
  have q0 : (((w.alloc (.cells #[.pointer (some ⟨p, 0, none⟩), .int .i64 (first : Int), .int .i64 (k : Int)] 62)).alloc (.cells #[.pointer none, .int .i64 0, .int .i64 0, .bool false, .int .u8 0, .int .i64 0] 64)).alloc (.cells z48 68)).heap[w.heap.size]? = some (.cells #[.pointer (some ⟨p, 0, none⟩), .int .i64 (first : Int), .int .i64 (k : Int)] 62 (0, 0)) := by
    rw [Below.heap_alloc _ _ _ (by simp; omega), Below.heap_alloc _ _ _ (by simp)]; exact heap_alloc_new w _
  have q1 : (((w.alloc (.cells #[.pointer (some ⟨p, 0, none⟩), .int .i64 (first : Int), .int .i64 (k : Int)] 62)).alloc (.cells #[.pointer none, .int .i64 0, .int .i64 0, .bool false, .int .u8 0, .int .i64 0] 64)).alloc (.cells z48 68)).heap[w.heap.size + 1]? = some (.cells #[.pointer none, .int .i64 0, .int .i64 0, .bool false, .int .u8 0, .int .i64 0] 64 (0, 0)) := by
    rw [Below.heap_alloc _ _ _ (by simp)]
    have := heap_alloc_new (w.alloc (.cells #[.pointer (some ⟨p, 0, none⟩), .int .i64 (first : Int), .int .i64 (k : Int)] 62)) (.cells #[.pointer none, .int .i64 0, .int .i64 0, .bool false, .int .u8 0, .int .i64 0] 64)
    rwa [World.size_alloc] at this
  have q2 : (((w.alloc (.cells #[.pointer (some ⟨p, 0, none⟩), .int .i64 (first : Int), .int .i64 (k : Int)] 62)).alloc (.cells #[.pointer none, .int .i64 0, .int .i64 0, .bool false, .int .u8 0, .int .i64 0] 64)).alloc (.cells z48 68)).heap[w.heap.size + 1 + 1]? = some (.cells z48 68 (0, 0)) := by
    have := heap_alloc_new ((w.alloc (.cells #[.pointer (some ⟨p, 0, none⟩), .int .i64 (first : Int), .int .i64 (k : Int)] 62)).alloc (.cells #[.pointer none, .int .i64 0, .int .i64 0, .bool false, .int .u8 0, .int .i64 0] 64)) (.cells z48 68)
    rwa [World.size_alloc, World.size_alloc] at this
  refine (callsIn_wide (n := 10)).1 (callsIn_of_wp_marks Try.func33 rfl trivial ?_ rfl)
  simp only [Try.ntmps33, List.size_toArray, List.length_cons, List.length_nil, Nat.reduceAdd, Nat.reduceSub, Array.replicate_succ, Array.replicate_zero, List.push_toArray, List.append_toArray, List.nil_append, List.cons_append]
  refine wpIn_wide.2 ?_
  clear h
  go_wp2_with (refine wpList_alloc68 rfl rfl ?_)
  generalize (((w.alloc (.cells #[.pointer (some ⟨p, 0, none⟩), .int .i64 (first : Int), .int .i64 (k : Int)] 62)).alloc (.cells #[.pointer none, .int .i64 0, .int .i64 0, .bool false, .int .u8 0, .int .i64 0] 64)).alloc (.cells z48 68)) = X at *
  with_reducible refine RD.mono ?_
  rintro e Y ⟨rfl, hb⟩
  clear RD
  have BY : Below w.heap.size w Y := BW1.trans (hb.mono BW1.size)
  have ZX := lt_of_heap q2
  replace q1 := (hb.block _ (by omega)).trans q1
  replace q2 := (hb.block _ (by omega)).trans q2
  have S1 : (storeVar 64 ⟨w.heap.size + 1, 0, none⟩ (.agg zero6)).run Try.prog Y = .ok () Y := store64z q1
  have S2 : (storeVar 68 ⟨w.heap.size + 1 + 1, 0, none⟩ (.agg z48)).run Try.prog Y = .ok () Y := by
    have := store68 (W := Y) (C := z48) (by rfl) q2 all0 ss0 rfl rfl
    rw [show (gflat all0 ss0).toArray = z48 from rfl, setRow_self _ _ _ _ _ q2] at this
    exact this
  have L1 := load_part 64 6 size64 agg64 Y (w.heap.size + 1) 0 [.pointer none, .int .i64 0, .int .i64 0, .bool false, .int .u8 0, .int .i64 0] _ q1 (by simp)
  have L2 : (loadVar 68 ⟨w.heap.size + 1 + 1, 0, none⟩).run Try.prog Y = .ok (.agg z48) Y := load68 (all := all0) (ss := ss0) rfl rfl q2
  have HBY : Hid (Below w.heap.size w Y) := BY
  clear q0 q1 q2 hb BW1 BY
  go_wp2_with (first | refine wpList_build68 rfl rfl ?_ | refine wpList_store_by rfl 64 (.tmp 2) (.tmp 17) rfl _ _ rfl rfl S1 ?_ | refine wpList_store_by rfl 68 (.tmp 3) (.tmp 18) rfl _ _ rfl rfl S2 ?_)
  refine ⟨.tuple #[.agg #[.pointer none, .int .i64 0, .int .i64 0, .bool false, .int .u8 0, .int .i64 0], .agg z48, .int .i64 7], ?_, rfl, HBY.out⟩
  have L1 : (loadVar 64 ⟨w.heap.size + 1, 0, none⟩).run Try.prog Y = .ok (.agg #[.pointer none, .int .i64 0, .int .i64 0, .bool false, .int .u8 0, .int .i64 0]) Y := L1
  simp [results, Try.results33, asAddr, L1, L2]

set_option linter.unusedSimpArgs false in
set_option maxHeartbeats 4000000 in
set_option maxRecDepth 100000 in
theorem open_off {w : World} {p B n cap : Nat} {s : FS} (h : IsS w p B n cap s) (ho : s.of = true) (first count : Nat) (hc : 2 ≤ count) (hf : first + count ≤ n) :
    Calls Try.prog 11 #[.pointer (some ⟨p, 0, none⟩), .int .i64 first, .int .i64 count] w fun e w' => e = .returned (.tuple #[.pointer none, .int .i64 7]) ∧ Below w.heap.size w w' := by
  have hn2 := h.n2
  have SE := sectors_any h
  obtain ⟨K, hK⟩ : ∃ K, Hid (count / 2 = K) := ⟨_, rfl⟩
  have K1 : 1 ≤ K := by rw [← hK.out]; omega
  have K2 : first + K + K ≤ n := by rw [← hK.out]; omega
  have e1 : (count : Int) / 2 = (K : Int) := by rw [← hK.out]; omega
  have L1 := lookAt_off h ho first K K1 (by omega)
  have g1 : (2 : Int) ≤ count := by omega
  have g1' : ¬ (count : Int) < 2 := by omega
  have g2 : (first : Int) + count ≤ n := by omega
  have g3 : (n : Int) ≤ 64 := by omega
  have g4 : ¬ (n : Int) - first < count := by omega
  clear h ho
  go_enter Try.func11, Try.ntmps11
  go_wp2_with fail
  with_reducible refine SE.mono ?_
  rintro e w ⟨rfl, rfl⟩
  clear SE
  go_wp2_with fail
  with_reducible refine L1.mono ?_
  rintro e Y ⟨rfl, b1⟩
  clear L1
  have ST1 := store_new68 (Y.alloc (.cells #[.pointer none, .int .i64 0, .int .i64 0, .bool false, .int .u8 0, .int .i64 0] 64)) all0 ss0 rfl rfl
  rw [World.size_alloc, show (gflat all0 ss0).toArray = z48 from rfl] at ST1
  have HB : Hid (Below w.heap.size w ((Y.alloc (.cells #[.pointer none, .int .i64 0, .int .i64 0, .bool false, .int .u8 0, .int .i64 0] 64)).alloc (.cells z48 68))) := Below.al (Below.al b1 _) _
  clear b1
  go_wp2_with (first | refine wpList_alloc68 rfl rfl ?_ | refine wpList_store_by rfl 68 (.tmp 9) (.tmp 39) rfl _ _ rfl rfl ST1 ?_)
  go_ret2
  exact ⟨rfl, HB.out⟩
#print axioms lookAt_off
#print axioms open_off
end Go.Proofs.Ytgpbmccjcjoijaa
namespace Go.Proofs.Ytgpbmccjcjoijaa
open Go.RowKit

/-- No step is done any more. -/
structure St (s0 s : FS) : Prop where
  cs : s.cs = s0.cs
  ar : s.ar = true
  lf : s.lf = 0
theorem St.step {s0 s : FS} (h : St s0 s) (cs : List Int) : St s0 (s.step cs).2 := by rw [FS.step_cut h.ar h.lf]; exact ⟨h.cs, h.ar, h.lf⟩
theorem St.write {s0 s : FS} (h : St s0 s) (n : Nat) (k d b0 b1 b2 b3 : Int) : St s0 (s.write n k d b0 b1 b2 b3).2 := by
  unfold FS.write
  split
  · exact h
  · split
    · exact h.step _
    · exact h
theorem St.erase {s0 s : FS} (h : St s0 s) (n : Nat) (k : Int) : St s0 (s.erase n k).2 := by
  unfold FS.erase
  split
  · exact h
  · exact h.step _
theorem St.regW {s0 : FS} (n first : Nat) : ∀ (k : Nat) (b : List Int) (at_ : Nat) (s : FS), b.length ≤ k → St s0 s → St s0 (Go.Proofs.Ytgpbmccjcjoijaa.regW n first b at_ s).2 := by
  intro k
  induction k with
  | zero =>
    intro b at_ s hb h
    have : b = [] := List.eq_nil_of_length_eq_zero (by omega)
    subst this
    exact h
  | succ k ih =>
    intro b at_ s hb h
    match b, hb with
    | [], _ => exact h
    | [_], _ => exact h
    | [_, _], _ => exact h
    | [_, _, _], _ => exact h
    | b0 :: b1 :: b2 :: b3 :: rest, hb =>
      cases hw : s.write n ((first + at_ / 1024 : Nat) : Int) ((at_ % 1024 / 4 : Nat) : Int) b0 b1 b2 b3 with
      | mk E s' =>
        have h1 := h.write n ((first + at_ / 1024 : Nat) : Int) ((at_ % 1024 / 4 : Nat) : Int) b0 b1 b2 b3
        rw [hw] at h1
        rw [regW_cons n first at_ s b0 b1 b2 b3 rest hw]
        split
        · exact ih rest (at_ + 4) s' (by simp at hb; omega) h1
        · exact h1
theorem St.regE {s0 : FS} (n first : Nat) : ∀ (k i : Nat) (s : FS), St s0 s → St s0 (Go.Proofs.Ytgpbmccjcjoijaa.regE n first k i s).2 := by
  intro k
  induction k with
  | zero => intro i s h; exact h
  | succ k ih =>
    intro i s h
    cases hw : s.erase n ((first + i : Nat) : Int) with
    | mk E s' =>
      have h1 := h.erase n ((first + i : Nat) : Int)
      rw [hw] at h1
      rw [regE_succ n first k i s hw]
      split
      · exact ih (i + 1) s' h1
      · exact h1
theorem St.addP {s0 s : FS} (h : St s0 s) (n first k : Nat) (bg : Bool) (en : Nat) (r : Rec) : St s0 (Go.Proofs.Ytgpbmccjcjoijaa.addP n first k bg en r s).2.2 := by
  have hw := St.regW n first _ (enc r) en s (Nat.le_refl _) h
  unfold Go.Proofs.Ytgpbmccjcjoijaa.addP
  split
  · exact h
  · split <;> exact hw
theorem St.fillG {s0 : FS} (n first k : Nat) : ∀ (gs : List Gp) (i en : Nat) (s : FS), St s0 s → St s0 (Go.Proofs.Ytgpbmccjcjoijaa.fillG n first k gs i en s).2.2
  | [], i, en, s, h => h
  | g :: gs, i, en, s, h => by
    have ha := h.addP n first k true en ⟨2, (i : Int), g.bs⟩
    rw [Go.Proofs.Ytgpbmccjcjoijaa.fillG]
    split
    · split
      · exact St.fillG n first k gs (i + 1) _ _ ha
      · exact ha
    · exact St.fillG n first k gs (i + 1) _ _ h
theorem St.fillP {s0 s : FS} (h : St s0 s) (n first k : Nat) (num : Int) (all : List Gp) : St s0 (Go.Proofs.Ytgpbmccjcjoijaa.fillP n first k num all s).2.2 := by
  have h1 := St.regE n first k 0 s h
  have h2 := St.fillG n first k all 0 16 _ h1
  have h3 := St.regW n first _ (enc ⟨1, 0, [num]⟩) 0 _ (Nat.le_refl _) h2
  unfold Go.Proofs.Ytgpbmccjcjoijaa.fillP
  split
  · exact h1
  · split
    · exact h2
    · exact h3
theorem St.keepJ {s0 s : FS} (h : St s0 s) (n first k : Nat) (j : JS) (r : Rec) (af : List Gp) : St s0 (Go.Proofs.Ytgpbmccjcjoijaa.keepJ n first k j r af s).2.2 := by
  have h1 := h.addP n (j.f1 first k) k j.bg j.en r
  have h2 := h1.fillP n (j.f2 first k) k ((j.num + 1) % 256) af
  unfold Go.Proofs.Ytgpbmccjcjoijaa.keepJ
  split
  · split <;> exact h2
  · split <;> exact h1
theorem St.storeJ {s0 s : FS} (h : St s0 s) (n first k : Nat) (j : JS) (g : Int) (bs : List Int) : St s0 (Go.Proofs.Ytgpbmccjcjoijaa.storeJ n first k j g bs s).2.2 := by
  unfold Go.Proofs.Ytgpbmccjcjoijaa.storeJ
  split
  · exact h
  · split
    · exact h
    · split
      · exact h
      · split
        · exact h
        · exact h.keepJ _ _ _ _ _ _
/-- A journal whose groups are known, in a flash of 4 sectors. -/
structure KS (w0 W : World) (p B q : Nat) (al : List Gp) (J : JS) (s : FS) (m : Nat) : Prop where
  bel : Below w0.heap.size w0 W
  fs : IsS W p B 4 4 s
  le : s.Le m
  a : Jat W [q, p, B] q p B 4 0 1 J s
  cut : J.cut = false
  of : s.of = false
  ar : s.ar = false
  all : J.all = al
  new : ∀ x ∈ [p, B, q], w0.heap.size ≤ x
theorem KS.next {w0 W W' : World} {p B q : Nat} {al : List Gp} {J : JS} {s : FS} {m : Nat} (h : KS w0 W p B q al J s m) (hb : Below W.heap.size W W') : KS w0 W' p B q al J s m :=
  ⟨Below.andThen h.bel hb, h.fs.next hb, h.le, h.a.next hb, h.cut, h.of, h.ar, h.all, h.new⟩
def KSP (w0 : World) (p B q : Nat) (M : Int × List Gp) (m : Nat) (e : Ending) (w' : World) : Prop := e = .returned (.int .i64 M.1) ∧ ∃ J s, KS w0 w' p B q M.2 J s m
theorem KS.after {w0 W W' : World} {p B q : Nat} {al : List Gp} {J : JS} {s : FS} {m m' : Nat} (h : KS w0 W p B q al J s m) {R : Int × JS × FS} {M : Int × List Gp} {e : Ending} (hp : KeepPost W p B 4 4 q 0 1 [q, p, B] R e W') (hd : Done 4 0 1 J s M R) (hle : R.2.2.Le m') : KSP w0 p B q M m' e W' := by
  obtain ⟨rfl, hF, hJ, hK⟩ := hp
  rcases hd with ⟨r1, r2, r3, r4, r5, r6, r7⟩ | ⟨_, _, _, _, _, _, h7⟩
  · exact ⟨by rw [r1], _, _, hK.below h.bel h.bel.size h.new, hF, hle, ⟨hJ, r4, h.a.qp, h.a.qB, h.a.pS, h.a.BS, h.a.qS, fun x hx => Nat.lt_of_lt_of_le (h.a.lt x hx) hK.size⟩, r3, r6, r7.trans h.ar, r2, h.new⟩
  · rw [h.ar] at h7; cases h7
theorem KS.store {w0 W : World} {p B q : Nat} {al : List Gp} {J : JS} {s : FS} {m : Nat} (h : KS w0 W p B q al J s m) (hm : m ≤ 700000000) (g : Int) (hg : 0 ≤ g) (bs : List Int) (a : Option Addr) (l c : Nat) (hr : Row W a l bs) (hl : l ≤ 1000000000) (hn : 0 < l → ∀ b off, a = some ⟨b, off, none⟩ → b ∉ [q, p, B]) {E : Int} {al' : List Gp} (hM : mStore 1 al g bs = (E, al')) :
    Calls Try.prog 17 #[.pointer (some ⟨q, 0, none⟩), .int .u8 g, .slice a l c] W fun e w' => KSP w0 p B q (E, al') (m + 70000) e w' := by
  refine (store_any h.fs m h.le hm h.a.js h.a.op.ok h.a.qp h.a.qB (by omega) (by omega) (by omega) h.a.pS h.a.BS h.a.qS h.a.lt g hg bs a l c hr hl hn).mono fun e w' hp => ?_
  have hd := storeJ_res h.a.op h.cut h.of g hg bs hr.oct
  rw [h.all, hM] at hd
  exact h.after hp hd (storeJ_le h.le h.a.op.grp (by omega))
theorem KS.restore {w0 W : World} {p B q : Nat} {al : List Gp} {J : JS} {s : FS} {m : Nat} (h : KS w0 W p B q al J s m) (hm : m ≤ 700000000) (i : Nat) (hi : i < 16) {E : Int} {al' : List Gp} (hM : mRestore al i (al.getD i gp0) = (E, al')) :
    Calls Try.prog 13 #[.pointer (some ⟨q, 0, none⟩), .int .u8 (i : Int)] W fun e w' => KSP w0 p B q (E, al') (m + 70000) e w' := by
  have hg := h.a.op.grp.at hi
  refine (restore_any h.fs m h.le hm h.a.js h.a.op.ok h.a.qp h.a.qB (by omega) (by omega) h.a.pS h.a.BS h.a.qS i _ hg).mono fun e w' hp => ?_
  have hd := restoreJ_res h.a.op h.cut h.of i _ hg
  rw [h.all] at hd hg hp
  rw [hM] at hd
  refine h.after hp hd ?_
  exact restoreJ_le h.le h.a.op.grp (by rw [h.all]; exact hg) (by omega)
theorem KS.restore_big {w0 W : World} {p B q : Nat} {al : List Gp} {J : JS} {s : FS} {m : Nat} (h : KS w0 W p B q al J s m) (g : Int) (hg : 16 ≤ g) :
    Calls Try.prog 13 #[.pointer (some ⟨q, 0, none⟩), .int .u8 g] W fun e w' => KSP w0 p B q (62, al) m e w' := by
  refine (Go.Proofs.Ytgpbmccjcjoijaa.restore_big q g hg).mono ?_
  rintro e w' ⟨rfl, rfl⟩
  exact ⟨rfl, J, s, h⟩
/-- It is opened again, in the same sectors. -/
theorem KS.open {w0 W V : World} {p B q q' : Nat} {al : List Gp} {J : JS} {s : FS} {m : Nat} (h : KS w0 W p B q al J s m) (hb : Below W.heap.size W V) (hq : W.heap.size ≤ q') (hJ : IsJ V [q', p, B] q' p 0 1 (opn s.cs 0 1)) : KS w0 V p B q' (dropG al) (opn s.cs 0 1) s m := by
  have lp := h.a.lt p h.a.pS
  have lB := h.a.lt B h.a.BS
  have hw := h.bel.size
  have np := h.new p (by simp)
  have nB := h.new B (by simp)
  have o := Go.Proofs.Ytgpbmccjcjoijaa.opened (first := 0) (count := 2) (n := 4) (s := s) h.fs.oct h.fs.len (by omega) (by omega)
  exact ⟨Below.andThen h.bel hb, h.fs.next hb, h.le, Jat.opened (count := 2) h.fs hb hq hJ (by omega) (by omega) (by simp) (by simp) (by simp; omega), o.2, h.of, h.ar, by rw [h.a.op.again, h.all], by simp; omega⟩
/-- The power goes at once. -/
theorem KS.cutNow {w0 W U : World} {p B q : Nat} {al : List Gp} {J : JS} {s : FS} {m : Nat} (h : KS w0 W p B q al J s m) (hm : m ≤ 700000000) (hF : IsF U p B 4 4 s.cs s.st true 0 s.of) (hK : Kp [p] W U) (g : Int) (hg : 0 ≤ g) {al' : List Gp} (hM : mStore 1 al g [] = (0, al')) (hne : dropG al ≠ dropG al') :
    Calls Try.prog 17 #[.pointer (some ⟨q, 0, none⟩), .int .u8 g, .slice none 0 0] U fun e w' => e = .returned (.int .i64 7) ∧ (∃ J' s', IsS w' p B 4 4 s' ∧ s'.of = true ∧ s'.Le (m + 70000) ∧ IsJ w' [q, p, B] q p 0 1 J' ∧ J'.Ok 1) ∧ Kp [p, B, q] U w' := by
  have hJ : IsJ U [q, p, B] q p 0 1 J := h.a.js.kp hK (by simpa using h.a.qp) (fun x hx => by simp at hx; subst hx; simp)
  have hO : Open 4 0 1 J ⟨s.cs, s.st, true, 0, s.of⟩ := h.a.op.same rfl
  have hle : (⟨s.cs, s.st, true, 0, s.of⟩ : FS).Le m := ⟨h.le.st0, h.le.st1, by show (0 : Int) ≤ 0; decide, by show (0 : Int) < _; decide⟩
  refine (store_any (s := ⟨s.cs, s.st, true, 0, s.of⟩) hF m hle hm hJ h.a.op.ok h.a.qp h.a.qB (by omega) (by omega) (by omega) (by simp) (by simp) (by simp) (fun x hx => Nat.lt_of_lt_of_le (h.a.lt x hx) hK.size) g hg [] none 0 0 (row_nil U) (by omega) (fun hp => absurd hp (by omega))).mono fun e w' hp => ?_
  have hd := storeJ_res hO h.cut h.of g hg [] oct_nil
  have hst : St ⟨s.cs, s.st, true, 0, s.of⟩ (storeJ 4 0 1 J g [] ⟨s.cs, s.st, true, 0, s.of⟩).2.2 := St.storeJ ⟨rfl, rfl, rfl⟩ 4 0 1 J g []
  have hl2 := storeJ_le (n := 4) (first := 0) (k := 1) (j := J) (g := g) (bs := []) hle h.a.op.grp (by omega)
  rw [h.all, hM] at hd
  obtain ⟨rfl, hF2, hJ2, hK2⟩ := hp
  rcases hd with ⟨_, r2, _, r4, _, _, _⟩ | ⟨_, r1, r2, _, _, r5, _⟩
  · exfalso
    have e1 := r4.again
    rw [hst.cs, r2] at e1
    have e2 := h.a.op.again
    rw [h.all] at e2
    exact hne (e2.symm.trans e1)
  · refine ⟨by rw [r1], ⟨_, _, hF2, r5, hl2, hJ2, ?_⟩, hK2⟩
    rw [r2]
    obtain ⟨o1, o2, o3⟩ := h.a.op.ok
    exact ⟨o1, o2, o3⟩
def zr (n : Nat) : Array Value := madeCells (Value.int .u8 0).cells (n * 1)
theorem mk8 (n : Nat) (h : n ≤ 100000) (W : World) : (Instr.makeSlice 33 (.int .i64 (n : Int)) (.int .i64 (n : Int))).run Try.prog W = .ok (.slice (some ⟨W.heap.size, 0, none⟩) n n) (W.alloc (.cells (zr n) 5)) := by
  obtain ⟨i0, hi, hz0, hz1, hz2⟩ := info_parts info8
  have := run_make W 33 5 i0 (.int .u8 0) Try.underlying33 hi hz0 .i64 .i64 (n : Int) (n : Int) (by omega) (by omega) (by rw [hz2]; omega) (by omega)
  rw [Int.toNat_natCast, hz1] at this
  exact this
theorem zr_row (n : Nat) (W : World) : Row (W.alloc (.cells (zr n) 5)) (some ⟨W.heap.size, 0, none⟩) n (List.replicate n 0) := by
  refine row_lit W _ _ _ n (by simp) (fun x hx => by rw [List.eq_of_mem_replicate hx]; decide) ?_
  apply Array.ext
  · simp [zr, size_madeCells]
  · intro i h1 h2
    simp [zr, madeCells, Value.cells, Nat.mod_one]
theorem roomG_one (z : List Int) : roomG (take1 all0 ⟨2, 0, z⟩) = rm z.length := by
  simp [take1, roomG, all0, List.replicate, gRoom, Gp.stays, gp0]
theorem roomG_two (z : List Int) : roomG (take1 (take1 all0 ⟨2, 0, z⟩) ⟨2, 2, []⟩) = rm z.length + 12 := by
  simp [take1, roomG, all0, List.replicate, gRoom, Gp.stays, gp0, rm]
theorem mstore_no (z : List Int) (h1 : z.length ≤ 4096) (h : 1024 < rm z.length + 16) : mStore 1 all0 0 z = (60, all0) := by
  unfold mStore
  rw [if_neg (by decide), if_neg (by omega), if_pos (by rw [roomG_one]; omega)]
theorem mstore_yes (z : List Int) (h1 : z.length ≤ 4096) (h : rm z.length + 16 ≤ 1024) : mStore 1 all0 0 z = (0, take1 all0 ⟨2, 0, z⟩) := by
  unfold mStore
  rw [if_neg (by decide), if_neg (by omega), if_neg (by rw [roomG_one]; omega)]
theorem mstore_two (z : List Int) (h : 1024 < rm z.length + 12 + 16) : mStore 1 (take1 all0 ⟨2, 0, z⟩) 2 [] = (60, take1 all0 ⟨2, 0, z⟩) := by
  unfold mStore
  rw [if_neg (by decide), if_neg (by simp), if_pos (by rw [roomG_two]; omega)]
theorem take1_again (z : List Int) : take1 (take1 all0 ⟨2, 0, z⟩) ⟨2, 0, []⟩ = take1 all0 ⟨2, 0, []⟩ := by
  simp [take1, all0, List.replicate]
theorem mstore_zero (z : List Int) : mStore 1 (take1 all0 ⟨2, 0, z⟩) 0 [] = (0, take1 all0 ⟨2, 0, []⟩) := by
  unfold mStore
  rw [take1_again]
  rw [if_neg (by decide), if_neg (by simp), if_neg (by rw [roomG_one]; simp [rm])]
#print axioms KS.cutNow
#print axioms mk8
end Go.Proofs.Ytgpbmccjcjoijaa
