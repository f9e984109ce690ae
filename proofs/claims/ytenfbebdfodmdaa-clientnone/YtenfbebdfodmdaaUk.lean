/-
  A write and a read that begin; a server's frame; bytes that are the same.
-/
import Derived.Test.YtenfbebdfodmdaaUj
namespace Go.Proofs.Ytenfbebdfodmdaa
open Go.RowKit

theorem BegPost.from11 {w W : World} {p : Nat} {A wt i s : Int} {wr q : Bool} {now k : Int} {zs : List Int} {len : Nat} {FC : Array Value} {e : Ending} {w' : World} (h : BegPost W p A wt i s wr q now k zs len FC e w') (hb : Below w.heap.size w W) : BegPost w p A wt i s wr q now k zs len FC e w' := by
  obtain ⟨T, g, a', cap', h0, h1, h2, h3, h4, h5, h6, h7, h8, h9⟩ := h
  exact ⟨T, g, a', cap', h0, (Kp.of hb).trans h1, h2, Nat.le_trans hb.size h3, Nat.le_trans hb.size h4, h5, h6, h7, h8.keep11 hb.size (fun _ _ _ => rfl), h9⟩
set_option linter.unusedSimpArgs false in
set_option maxHeartbeats 4000000 in
set_option maxRecDepth 100000 in
theorem write_1 (p : Nat) (A wt : Int) (rp : Option Addr) (i s : Int) (a : Option Addr) (len cap : Nat) (zs : List Int) (now : Int) (FC : Array Value) (w : World) (hp : w.heap[p]? = some (.cells (clC A wt none rp) 60 (0, 0))) (hr : Row w a len zs) (h1 : 1 ≤ len) (h4 : len ≤ 4) (hne : ∀ b off, a = some ⟨b, off, none⟩ → b ≠ p)
    (HA : Hid (∀ W T, Kp [p] w W → W.heap[p]? = some (.cells (clC A wt (some ⟨T, 0, none⟩) none) 60 (0, 0)) → Calls Try.prog 27 #[.pointer (some ⟨p, 0, none⟩), cmV 1 i s true 0 true a len cap false false false 0 0 0 0 0] W (OnePost W FC))) :
    Calls Try.prog 4 #[.pointer (some ⟨p, 0, none⟩), plV i s, .slice a len cap, .int .u8 0, .int .i64 now] w
      fun e w' => ∃ v, e = .returned (.tuple #[v, .int .i64 0]) ∧ BegPost w p A wt i s true true now 1 zs len FC (.returned v) w' := by
  have HP : Hid (w.heap[p]? = some (.cells (clC A wt none rp) 60 (0, 0))) := hp
  have lp : p < w.heap.size := lt_of_heap hp
  have HB : Hid (∀ W, Below w.heap.size w W → Calls Try.prog 14 #[.pointer (some ⟨p, 0, none⟩), cmV 1 i s true 0 true a len cap false false false 0 0 0 0 0, .slice a len cap, .int .i64 now] W (BegPost W p A wt i s true true now 1 zs len FC)) := fun W hb =>
    begin_1 p A wt none rp i s true 0 true a len cap false false false 0 0 0 0 0 a len cap zs now FC W (blk11 hb hp) (hr.next hb) (by omega) hne (show Hid (∀ _ _, _ → _ → _) from fun W' T hk h => HA.out W' T ((Kp.of hb).trans hk) h)
  have h1' : ¬ (4096 : Int) < (len : Int) := by omega
  clear hp hr hne HA
  go_enter Try.func4, Try.ntmps4
  go_wp2_with fail
  with_reducible refine (mayBegin_ok p A wt rp 0 len _ (ext11 HP.out) (by omega) (by omega)).mono ?_
  rintro r w9 ⟨rfl, rfl⟩
  go_wp2_with fail
  with_reducible refine (firstOfWrite_quick i s a len cap _ h1 h4).mono ?_
  rintro r w1 ⟨rfl, hb⟩
  have B1 : Hid (Below w.heap.size w w1) := Below.andThen (by repeat (first | exact Below.refl _ _ | apply Below.drew | apply Below.al)) hb
  clear hb
  go_wp2_with fail
  with_reducible refine (HB.out _ B1.out).mono ?_
  rintro r w2 ⟨T, g, a', cap', rfl, k1, k2, k3, k4, k5, k6, k7, k8, k9⟩
  have HK : Hid (BegPost w1 p A wt i s true true now 1 zs len FC (.returned (.slice (some ⟨g, 0, none⟩) 1 1)) w2) := ⟨T, g, a', cap', rfl, k1, k2, k3, k4, k5, k6, k7, k8, k9⟩
  clear k1 k2 k3 k4 k5 k6 k7 k8 k9
  go_wp2_with fail
  go_ret2
  exact ⟨_, rfl, HK.out.from11 B1.out⟩

set_option linter.unusedSimpArgs false in
set_option maxHeartbeats 4000000 in
set_option maxRecDepth 100000 in
theorem read_3 (p : Nat) (A wt : Int) (rp : Option Addr) (i s : Int) (now : Int) (FC : Array Value) (w : World) (hp : w.heap[p]? = some (.cells (clC A wt none rp) 60 (0, 0)))
    (HA : Hid (∀ W T, Kp [p] w W → W.heap[p]? = some (.cells (clC A wt (some ⟨T, 0, none⟩) none) 60 (0, 0)) → Calls Try.prog 27 #[.pointer (some ⟨p, 0, none⟩), cmV 3 i s false 0 false none 0 0 false false false 0 0 0 0 0] W (OnePost W FC))) :
    Calls Try.prog 5 #[.pointer (some ⟨p, 0, none⟩), plV i s, .int .u8 0, .int .i64 now] w
      fun e w' => ∃ v, e = .returned (.tuple #[v, .int .i64 0]) ∧ BegPost w p A wt i s false false now 3 [] 0 FC (.returned v) w' := by
  have HP : Hid (w.heap[p]? = some (.cells (clC A wt none rp) 60 (0, 0))) := hp
  have lp : p < w.heap.size := lt_of_heap hp
  have HB : Hid (∀ W, Below w.heap.size w W → Calls Try.prog 14 #[.pointer (some ⟨p, 0, none⟩), cmV 3 i s false 0 false none 0 0 false false false 0 0 0 0 0, .slice none 0 0, .int .i64 now] W (BegPost W p A wt i s false false now 3 [] 0 FC)) := fun W hb =>
    begin_3 p A wt none rp i s false 0 false none 0 0 false false false 0 0 0 0 0 none 0 0 [] now FC W (blk11 hb hp) (row_nil _) (by omega) (fun _ _ h => by cases h) (show Hid (∀ _ _, _ → _ → _) from fun W' T hk h => HA.out W' T ((Kp.of hb).trans hk) h)
  clear hp HA
  go_enter Try.func5, Try.ntmps5
  go_wp2_with fail
  with_reducible refine (mayBegin_ok p A wt rp 0 0 _ (ext11 HP.out) (by omega) (by omega)).mono ?_
  rintro r w9 ⟨rfl, rfl⟩
  go_wp2_with fail
  with_reducible refine (firstOfRead_auto i s _).mono ?_
  rintro r w1 ⟨rfl, hb⟩
  have B1 : Hid (Below w.heap.size w w1) := Below.andThen (by repeat (first | exact Below.refl _ _ | apply Below.drew | apply Below.al)) hb
  clear hb
  go_wp2_with fail
  with_reducible refine (HB.out _ B1.out).mono ?_
  rintro r w2 ⟨T, g, a', cap', rfl, k1, k2, k3, k4, k5, k6, k7, k8, k9⟩
  have HK : Hid (BegPost w1 p A wt i s false false now 3 [] 0 FC (.returned (.slice (some ⟨g, 0, none⟩) 1 1)) w2) := ⟨T, g, a', cap', rfl, k1, k2, k3, k4, k5, k6, k7, k8, k9⟩
  clear k1 k2 k3 k4 k5 k6 k7 k8 k9
  go_wp2_with fail
  go_ret2
  exact ⟨_, rfl, HK.out.from11 B1.out⟩

set_option linter.unusedSimpArgs false in
set_option maxHeartbeats 4000000 in
set_option maxRecDepth 100000 in
theorem answer_at (k i s : Int) (z : Bool) (n : Int) (q : Bool) (a2 : Option Addr) (len2 cap2 : Nat) (t l c : Bool) (b e u m o : Int) (b0 b1 b2 b3 b4 b5 b6 b7 : Int) (w : World)
    (HB : Hid (∀ W, Below w.heap.size w W → Calls Try.prog 35 #[cmV k i s z n q a2 len2 cap2 t l c b e u m o] W fun e w' => e = .returned (.tuple #[arr8 b0 b1 b2 b3 b4 b5 b6 b7, .int .i64 0]) ∧ Below W.heap.size W w')) :
    Calls Try.prog 25 #[cmV k i s z n q a2 len2 cap2 t l c b e u m o] w fun e w' => e = .returned (frV 1413 8 b0 b1 b2 b3 b4 b5 b6 b7 false) ∧ Below w.heap.size w w' := by
  go_enter Try.func25, Try.ntmps25
  go_wp2_with (refine wpList_load_by rfl 54 _ rfl ⟨w.heap.size, 0, none⟩ _ rfl (loadCM _ _ k i s z n q a2 len2 cap2 t l c b e u m o _ (ext11 (at11 _ _ _ rfl))) ?_)
  with_reducible refine (HB.out _ (by repeat (first | exact Below.refl _ _ | apply Below.drew | apply Below.al))).mono ?_
  rintro r w1 ⟨rfl, hb⟩
  have B1 : Hid (Below w.heap.size w w1) := Below.andThen (by repeat (first | exact Below.refl _ _ | apply Below.drew | apply Below.al)) hb
  have RX1 : Hid (w1.heap[w.heap.size + 1]? = some (.cells (frC 0 0 0 0 0 0 0 0 0 0 false) 25 (0, 0))) := blk11 hb (at11 _ _ _ (by simp))
  have lr : w.heap.size + 1 < w1.heap.size := lt_of_heap RX1.out
  clear hb
  go_wp2_with (first | (refine wpList_load_by rfl 23 _ rfl ⟨w1.heap.size, 0, none⟩ _ rfl (load8 _ _ b0 b1 b2 b3 b4 b5 b6 b7 _ (at11 _ _ _ rfl)) ?_) | (refine wpList_store_by rfl 25 _ _ rfl ⟨w.heap.size + 1, 0, none⟩ _ rfl rfl (storeF _ _ _ 1413 8 b0 b1 b2 b3 b4 b5 b6 b7 false _ (ext11 RX1.out) rfl) ?_))
  have hc := fun j => cell_of_row _ (w.heap.size + 1) j _ _ _ (setRow_heap _ _ _ (frC 1413 8 b0 b1 b2 b3 b4 b5 b6 b7 false) _ _ (ext11 (o := .cells (ar8 b0 b1 b2 b3 b4 b5 b6 b7) 23) RX1.out))
  refine bodyPost_ret (v := frV 1413 8 b0 b1 b2 b3 b4 b5 b6 b7 false) ?_ rfl ⟨rfl, below_setRow (Below.al B1.out _) (Nat.le_succ _) _⟩
  simp [results, Try.results25, go_sem, hc]

set_option linter.unusedSimpArgs false in
set_option maxHeartbeats 4000000 in
set_option maxRecDepth 100000 in
theorem same_bytes11 (a b : Option Addr) (la ca lb cb : Nat) (xs ys : List Int) (w : World) (ha : Row w a la xs) (hb : Row w b lb ys) :
    Calls Try.prog 23 #[.slice a la ca, .slice b lb cb] w fun e w' => e = .returned (.bool ((strOfNums xs).toList == (strOfNums ys).toList)) ∧ w' = w := by
  have h1 := ha.str ca
  have h2 := hb.str cb
  clear ha hb
  go_enter Try.func23, Try.ntmps23
  go_wp2_with fail
  go_ret
  exact ⟨rfl, rfl⟩

end Go.Proofs.Ytenfbebdfodmdaa
