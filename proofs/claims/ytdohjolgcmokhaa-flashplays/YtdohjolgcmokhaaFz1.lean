/-
  The document's flash in memory, and its small methods.
-/
import Derived.Test.YtdohjolgcmokhaaFk
namespace Go.Proofs.Ytdohjolgcmokhaa
open Go.RowKit

/-- How many steps may be done, as the document's flash keeps it. -/
def FS.left (s : FS) : Int := if s.ar then s.lf else -1
/-- The document's flash: its block, its words' block, how many sectors, its state. -/
structure IsD (w : World) (p B n cap : Nat) (s : FS) : Prop where
  ne : p ≠ B
  n1 : 1 ≤ n
  n2 : n ≤ 64
  len : s.cs.length = 1024 * n
  oct : Oct s.cs
  cp : 256 * n ≤ cap
  head : w.heap[p]? = some (.cells #[.slice (some ⟨B, 0, none⟩) (256 * n) cap, .int .i64 s.left, .bool s.of, .int .i64 s.st] 63 (0, 0))
  row : ∃ t ex, w.heap[B]? = some (.cells (s.cs.map (Value.int .u8) ++ ex).toArray t (0, 0))

theorem IsD.keep {w w' : World} {p B n cap : Nat} {s : FS} (h : IsD w p B n cap s) (hp : w'.heap[p]? = w.heap[p]?) (hB : w'.heap[B]? = w.heap[B]?) : IsD w' p B n cap s :=
  ⟨h.ne, h.n1, h.n2, h.len, h.oct, h.cp, by rw [hp]; exact h.head, by rw [hB]; exact h.row⟩
theorem IsD.lt {w : World} {p B n cap : Nat} {s : FS} (h : IsD w p B n cap s) : p < w.heap.size ∧ B < w.heap.size := by
  obtain ⟨t, ex, hr⟩ := h.row
  exact ⟨lt_of_heap h.head, lt_of_heap hr⟩
theorem IsD.kp {w w' : World} {p B n cap : Nat} {s : FS} {S : List Nat} (h : IsD w p B n cap s) (k : Kp S w w') (hp : p ∉ S) (hB : B ∉ S) : IsD w' p B n cap s :=
  h.keep (k.block p h.lt.1 hp) (k.block B h.lt.2 hB)
theorem IsD.next {w w' : World} {p B n cap : Nat} {s : FS} (h : IsD w p B n cap s) (k : Below w.heap.size w w') : IsD w' p B n cap s :=
  h.kp (S := []) (Kp.of k) (by simp) (by simp)
theorem IsD.c0 {w : World} {p B n cap : Nat} {s : FS} (h : IsD w p B n cap s) : w.cell? ⟨p, 0, none⟩ = some (.slice (some ⟨B, 0, none⟩) (256 * n) cap) := by rw [cell_of_row w p 0 _ _ _ h.head]; rfl
theorem IsD.c1 {w : World} {p B n cap : Nat} {s : FS} (h : IsD w p B n cap s) : w.cell? ⟨p, 1, none⟩ = some (.int .i64 s.left) := by rw [cell_of_row w p 1 _ _ _ h.head]; rfl
theorem IsD.c2 {w : World} {p B n cap : Nat} {s : FS} (h : IsD w p B n cap s) : w.cell? ⟨p, 2, none⟩ = some (.bool s.of) := by rw [cell_of_row w p 2 _ _ _ h.head]; rfl
theorem IsD.c3 {w : World} {p B n cap : Nat} {s : FS} (h : IsD w p B n cap s) : w.cell? ⟨p, 3, none⟩ = some (.int .i64 s.st) := by rw [cell_of_row w p 3 _ _ _ h.head]; rfl
theorem IsD.fz {w : World} {p B n cap : Nat} {s : FS} (h : IsD w p B n cap s) (j : Nat) : w.frozen? ⟨p, j, none⟩ = false := frozen_of_row w p j _ _ h.head
/-- The state is another, the bytes are the same. -/
theorem IsD.s1 {w : World} {p B n cap : Nat} {s : FS} (h : IsD w p B n cap s) (x : Int) (s' : FS) (e1 : s'.cs = s.cs) (e2 : s'.st = s.st) (e3 : s'.of = s.of) (e4 : s'.left = x) : IsD (w.setCell ⟨p, 1, none⟩ (.int .i64 x)) p B n cap s' :=
  ⟨h.ne, h.n1, h.n2, by rw [e1]; exact h.len, by rw [e1]; exact h.oct, h.cp, by rw [heap_setCell_same w p 1 _ _ _ h.head, e2, e3, e4]; rfl, by rw [heap_setCell_other _ _ _ _ h.ne.symm, e1]; exact h.row⟩
theorem IsD.s2 {w : World} {p B n cap : Nat} {s : FS} (h : IsD w p B n cap s) (x : Bool) (s' : FS) (e1 : s'.cs = s.cs) (e2 : s'.st = s.st) (e3 : s'.of = x) (e4 : s'.left = s.left) : IsD (w.setCell ⟨p, 2, none⟩ (.bool x)) p B n cap s' :=
  ⟨h.ne, h.n1, h.n2, by rw [e1]; exact h.len, by rw [e1]; exact h.oct, h.cp, by rw [heap_setCell_same w p 2 _ _ _ h.head, e2, e3, e4]; rfl, by rw [heap_setCell_other _ _ _ _ h.ne.symm, e1]; exact h.row⟩
theorem IsD.s3 {w : World} {p B n cap : Nat} {s : FS} (h : IsD w p B n cap s) (x : Int) (s' : FS) (e1 : s'.cs = s.cs) (e2 : s'.st = x) (e3 : s'.of = s.of) (e4 : s'.left = s.left) : IsD (w.setCell ⟨p, 3, none⟩ (.int .i64 x)) p B n cap s' :=
  ⟨h.ne, h.n1, h.n2, by rw [e1]; exact h.len, by rw [e1]; exact h.oct, h.cp, by rw [heap_setCell_same w p 3 _ _ _ h.head, e2, e3, e4]; rfl, by rw [heap_setCell_other _ _ _ _ h.ne.symm, e1]; exact h.row⟩
/-- A row of its bytes, written over. -/
theorem IsD.over {w : World} {p B n cap : Nat} {s : FS} (h : IsD w p B n cap s) (cur : Array Value) (t : TypeId) (hc : w.heap[B]? = some (.cells cur t (0, 0))) (o : Nat) (m : List Int) (hm : Oct m) (hl : o + m.length ≤ 1024 * n) (s' : FS) (e1 : s'.cs = put s.cs o m) (e2 : s'.st = s.st) (e3 : s'.of = s.of) (e4 : s'.left = s.left) :
    IsD (w.setRow B (cur.toList.take o ++ m.map (Value.int .u8) ++ cur.toList.drop (o + (m.map (Value.int .u8)).length)).toArray) p B n cap s' := by
  obtain ⟨t', ex, hr⟩ := h.row
  rw [hc] at hr
  obtain ⟨rfl, rfl⟩ : cur = (s.cs.map (Value.int .u8) ++ ex).toArray ∧ t = t' := by simpa using hr
  refine ⟨h.ne, h.n1, h.n2, by rw [e1, put_len _ _ _ (by rw [h.len]; exact hl)]; exact h.len, by rw [e1]; exact put_oct h.oct hm, h.cp, by rw [setRow_other _ _ _ _ h.ne, e2, e3, e4]; exact h.head, t, ex, ?_⟩
  rw [setRow_heap w B _ _ t _ hc, e1]
  have e := put_app (s.cs.map (Value.int .u8)) (m.map (Value.int .u8)) ex o (by simp [h.len]; exact hl)
  rw [put_map, ← e]
  rfl
/-- A word out of memory. -/
theorem IsD.word {w : World} {p B n cap : Nat} {s : FS} (h : IsD w p B n cap s) (k d J : Nat) (hJ : J = 256 * k + d) (hk : k < n) (hd : d < 256) : (loadVar 32 ⟨B, J * 4, none⟩).run Try.prog w = .ok (.agg (wdC s.cs (k * 1024 + d * 4))) w := by
  obtain ⟨t, ex, hr⟩ := h.row
  have hl := h.len
  have := load_part 32 4 size32 agg32 w B (k * 1024 + d * 4) (s.cs.map (Value.int .u8) ++ ex) t hr (by rw [List.length_append, List.length_map]; omega)
  rw [List.drop_append_of_le_length (by rw [List.length_map]; omega), List.take_append_of_le_length (by rw [List.length_drop, List.length_map]; omega), ← List.map_drop, ← List.map_take, wd_take s.cs _ (by omega)] at this
  rw [show J * 4 = k * 1024 + d * 4 from by omega]
  exact this

set_option linter.unusedSimpArgs false in
set_option maxHeartbeats 4000000 in
set_option maxRecDepth 100000 in
theorem sectorsD {w : World} {p B n cap : Nat} {s : FS} (h : IsD w p B n cap s) :
    Calls Try.prog 36 #[.pointer (some ⟨p, 0, none⟩)] w fun e w' => e = .returned (.int .i64 n) ∧ w' = w := by
  have k0 := h.c0
  have dv : ((256 * n : Nat) : Int).tdiv 256 = (n : Int) := by rw [Int.tdiv_eq_ediv_of_nonneg (by omega)]; omega
  have wn : IntKind.i64.wrap (n : Int) = (n : Int) := by rw [IntKind.wrap_i64]; have := h.n2; omega
  obtain ⟨N, hN⟩ : ∃ N, N = 256 * n := ⟨_, rfl⟩
  rw [← hN] at k0 dv
  clear h hN
  go_enter Try.func36, Try.ntmps36
  go_wp2_with fail
  go_ret
  exact ⟨rfl, rfl⟩

set_option linter.unusedSimpArgs false in
set_option maxHeartbeats 4000000 in
set_option maxRecDepth 100000 in
theorem wrongD {w : World} {p B n cap : Nat} {s : FS} (h : IsD w p B n cap s) (k d : Int) :
    Calls Try.prog 45 #[.pointer (some ⟨p, 0, none⟩), .int .i64 k, .int .i64 d] w fun e w' => e = .returned (.int .i64 (refE s.of n k d)) ∧ w' = w := by
  have k2 := h.c2
  have SE := sectorsD h
  clear h
  generalize s.of = of at *
  cases of with
  | true =>
    rw [refE_off]
    clear SE
    go_enter Try.func45, Try.ntmps45
    go_wp2_with fail
    go_ret
    exact ⟨rfl, rfl⟩
  | false =>
    by_cases a : k < 0
    · rw [refE_bad rfl n k d (.inl a)]
      clear SE
      go_enter Try.func45, Try.ntmps45
      go_wp2_with fail
      go_ret
      exact ⟨rfl, rfl⟩
    by_cases b : (n : Int) ≤ k
    · rw [refE_bad rfl n k d (.inr (.inl b))]
      go_enter Try.func45, Try.ntmps45
      go_wp2_with fail
      refine SE.mono ?_
      rintro e w ⟨rfl, rfl⟩
      clear SE
      go_wp2_with fail
      go_ret
      exact ⟨rfl, rfl⟩
    by_cases c : d < 0
    · rw [refE_bad rfl n k d (.inr (.inr (.inl c)))]
      go_enter Try.func45, Try.ntmps45
      go_wp2_with fail
      refine SE.mono ?_
      rintro e w ⟨rfl, rfl⟩
      clear SE
      go_wp2_with fail
      go_ret
      exact ⟨rfl, rfl⟩
    by_cases c2 : 255 < d
    · rw [refE_bad rfl n k d (.inr (.inr (.inr (by omega))))]
      go_enter Try.func45, Try.ntmps45
      go_wp2_with fail
      refine SE.mono ?_
      rintro e w ⟨rfl, rfl⟩
      clear SE
      go_wp2_with fail
      go_ret
      exact ⟨rfl, rfl⟩
    rw [refE_ok rfl n k d (by omega) (by omega) (by omega) (by omega)]
    go_enter Try.func45, Try.ntmps45
    go_wp2_with fail
    refine SE.mono ?_
    rintro e w ⟨rfl, rfl⟩
    clear SE
    go_wp2_with fail
    go_ret
    exact ⟨rfl, rfl⟩

/-- The document's step: what it answers, what is behind it; the bytes are as ahead. -/
theorem FS.left_cut {s : FS} (h : s.left = 0) : s.ar = true ∧ s.lf = 0 := by
  unfold FS.left at h
  split at h
  · rename_i a; exact ⟨a, h⟩
  · cases h

set_option linter.unusedSimpArgs false in
set_option maxHeartbeats 4000000 in
set_option maxRecDepth 100000 in
theorem stepD {w : World} {p B n cap : Nat} {s : FS} (h : IsD w p B n cap s) (hs : s.Ok) :
    Calls Try.prog 46 #[.pointer (some ⟨p, 0, none⟩)] w fun e w' => e = .returned (.int .i64 (s.step s.cs).1) ∧ IsD w' p B n cap (s.step s.cs).2 ∧ Kp [p] w w' := by
  obtain ⟨h0, h1, h2, h3⟩ := hs
  have k1 := h.c1
  have k2 := h.c2
  have k3 := h.c3
  have f1 := h.fz 1
  have f2 := h.fz 2
  have f3 := h.fz 3
  obtain ⟨C, st, ar, lf, of⟩ := s
  dsimp only at *
  cases ar with
  | true =>
    have kl : (⟨C, st, true, lf, of⟩ : FS).left = lf := rfl
    rw [kl] at k1
    by_cases hz : lf = 0
    · subst hz
      rw [FS.step_cut rfl rfl]
      have H : Hid _ := h.s2 true ⟨C, st, true, 0, true⟩ rfl rfl rfl rfl
      clear h
      go_enter Try.func46, Try.ntmps46
      go_wp2_with fail
      go_ret
      exact ⟨rfl, H.out, (Kp.refl _ _).set _ _ (.inl (by simp))⟩
    · rw [FS.step_armed rfl hz]
      have W1 := wrap64 (lf - 1) (by omega) (by omega)
      have W2 := wrap64 (st + 1) (by omega) (by omega)
      have g1 : (lf == 0) = false := by simp [hz]
      have g2 : 0 < lf := by omega
      have H1 := h.s1 (lf - 1) ⟨C, st, true, lf - 1, of⟩ rfl rfl rfl rfl
      have H : Hid _ := H1.s3 (st + 1) ⟨C, st + 1, true, lf - 1, of⟩ rfl rfl rfl rfl
      clear h H1
      go_enter Try.func46, Try.ntmps46
      go_wp2_with fail
      go_ret
      exact ⟨rfl, H.out, ((Kp.refl _ _).set _ _ (.inl (by simp))).set _ _ (.inl (by simp))⟩
  | false =>
    have kl : (⟨C, st, false, lf, of⟩ : FS).left = -1 := rfl
    rw [kl] at k1
    rw [FS.step_free rfl]
    have W2 := wrap64 (st + 1) (by omega) (by omega)
    have H : Hid _ := h.s3 (st + 1) ⟨C, st + 1, false, lf, of⟩ rfl rfl rfl rfl
    clear h
    go_enter Try.func46, Try.ntmps46
    go_wp2_with fail
    go_ret
    exact ⟨rfl, H.out, (Kp.refl _ _).set _ _ (.inl (by simp))⟩

set_option linter.unusedSimpArgs false in
set_option maxHeartbeats 4000000 in
set_option maxRecDepth 100000 in
theorem cutD {w : World} {p B n cap : Nat} {s : FS} (h : IsD w p B n cap s) (a : Int) :
    Calls Try.prog 32 #[.pointer (some ⟨p, 0, none⟩), .int .i64 a] w fun e w' => e = .returned (.tuple #[]) ∧ IsD w' p B n cap ⟨s.cs, s.st, decide (0 ≤ a), max a 0, s.of⟩ ∧ Kp [p] w w' := by
  have f1 := h.fz 1
  have k1 := h.c1
  have H : Hid _ := h.s1 (max a (-1)) ⟨s.cs, s.st, decide (0 ≤ a), max a 0, s.of⟩ rfl rfl rfl (by unfold FS.left; dsimp only; by_cases q : 0 ≤ a <;> simp [q] <;> omega)
  clear h
  go_enter Try.func32, Try.ntmps32
  go_wp2_with fail
  go_end0
  exact ⟨rfl, H.out, (Kp.refl _ _).set _ _ (.inl (by simp))⟩

set_option linter.unusedSimpArgs false in
set_option maxHeartbeats 4000000 in
set_option maxRecDepth 100000 in
theorem onD {w : World} {p B n cap : Nat} {s : FS} (h : IsD w p B n cap s) :
    Calls Try.prog 33 #[.pointer (some ⟨p, 0, none⟩)] w fun e w' => e = .returned (.tuple #[]) ∧ IsD w' p B n cap ⟨s.cs, s.st, false, 0, false⟩ ∧ Kp [p] w w' := by
  have f1 := h.fz 1
  have f2 := h.fz 2
  have k1 := h.c1
  have k2 := h.c2
  have H : Hid _ := (h.s2 false ⟨s.cs, s.st, s.ar, s.lf, false⟩ rfl rfl rfl rfl).s1 (-1) ⟨s.cs, s.st, false, 0, false⟩ rfl rfl rfl rfl
  clear h
  go_enter Try.func33, Try.ntmps33
  go_wp2_with fail
  go_end0
  exact ⟨rfl, H.out, ((Kp.refl _ _).set _ _ (.inl (by simp))).set _ _ (.inl (by simp))⟩

set_option linter.unusedSimpArgs false in
set_option maxHeartbeats 4000000 in
set_option maxRecDepth 100000 in
theorem wordD_bad {w : World} {p B n cap : Nat} {s : FS} (h : IsD w p B n cap s) (k d : Int) (hb : refE s.of n k d ≠ 0) :
    Calls Try.prog 34 #[.pointer (some ⟨p, 0, none⟩), .int .i64 k, .int .i64 d] w fun e w' => e = .returned (.tuple #[.agg #[.int .u8 0, .int .u8 0, .int .u8 0, .int .u8 0], .int .i64 (refE s.of n k d)]) ∧ Below w.heap.size w w' := by
  have hr := fun x => wrongD (h.next (Below.al (Below.refl _ _) x)) k d
  have gb : (refE s.of n k d != 0) = true := by simp [hb]
  generalize refE s.of n k d = E at *
  clear h hb
  go_enter Try.func34, Try.ntmps34
  go_wp2_with fail
  refine (hr _).mono ?_
  rintro e w2 ⟨rfl, rfl⟩
  clear hr
  go_wp2_with fail
  exact bodyPost_ret (v := .tuple #[.agg #[.int .u8 0, .int .u8 0, .int .u8 0, .int .u8 0], .int .i64 E]) (by simp [results, Try.results34, go_sem]) rfl ⟨rfl, Below.al (Below.refl _ _) _⟩

set_option linter.unusedSimpArgs false in
set_option maxHeartbeats 4000000 in
set_option maxRecDepth 100000 in
theorem wordD_ok {w : World} {p B n cap : Nat} {s : FS} (h : IsD w p B n cap s) (k d : Nat) (hk : k < n) (hd : d < 256) (ho : s.of = false) :
    Calls Try.prog 34 #[.pointer (some ⟨p, 0, none⟩), .int .i64 k, .int .i64 d] w fun e w' => e = .returned (.tuple #[.agg (wdC s.cs (k * 1024 + d * 4)), .int .i64 0]) ∧ Below w.heap.size w w' := by
  have hn2 := h.n2
  have h2 := fun x => h.next (Below.al (Below.refl _ _) x)
  have hr := fun x => wrongD (h2 x) k d
  rw [refE_ok ho n k d (by omega) (by omega) (by omega) (by omega)] at hr
  have k0 := fun x => (h2 x).c0
  obtain ⟨K, hK⟩ : ∃ K, K = 256 * k := ⟨_, rfl⟩
  obtain ⟨J, hJ⟩ : ∃ J, J = 256 * k + d := ⟨_, rfl⟩
  have wx : IntKind.i64.wrap (256 * (k : Int)) = (K : Int) := by rw [IntKind.wrap_i64]; omega
  have wy : IntKind.i64.wrap ((K : Int) + (d : Int)) = (J : Int) := by rw [IntKind.wrap_i64]; omega
  have gJ : (J : Int) < ((256 * n : Nat) : Int) := by omega
  have LD := fun x => (h2 x).word k d J hJ hk hd
  unfold wdC at *
  generalize s.cs.getD (k * 1024 + d * 4) 0 = q0 at *
  generalize s.cs.getD (k * 1024 + d * 4 + 1) 0 = q1 at *
  generalize s.cs.getD (k * 1024 + d * 4 + 2) 0 = q2 at *
  generalize s.cs.getD (k * 1024 + d * 4 + 3) 0 = q3 at *
  have ST := run_storeVar_new (P := Try.prog) w 32 #[.int .u8 0, .int .u8 0, .int .u8 0, .int .u8 0] #[.int .u8 q0, .int .u8 q1, .int .u8 q2, .int .u8 q3] size32 rfl (by simp [Value.oneCell'])
  obtain ⟨N, hN⟩ : ∃ N, N = 256 * n := ⟨_, rfl⟩
  rw [← hN] at k0 gJ
  clear h h2 hk hd hN hn2 hK hJ
  go_enter Try.func34, Try.ntmps34
  go_wp2_with fail
  refine (hr _).mono ?_
  rintro e w2 ⟨rfl, rfl⟩
  clear hr
  have LD2 := LD (.cells #[.int .u8 0, .int .u8 0, .int .u8 0, .int .u8 0] 32)
  have k02 := k0 (.cells #[.int .u8 0, .int .u8 0, .int .u8 0, .int .u8 0] 32)
  clear LD k0
  go_wp2_with (first | refine wpList_load_by rfl 32 (.tmp 25) rfl _ _ rfl LD2 ?_ | refine wpList_store_by rfl 32 (.tmp 6) (.tmp 26) rfl _ _ rfl rfl ST ?_)
  exact bodyPost_ret (v := .tuple #[.agg #[.int .u8 q0, .int .u8 q1, .int .u8 q2, .int .u8 q3], .int .i64 0]) (by simp [results, Try.results34, go_sem]) rfl ⟨rfl, Below.al (Below.refl _ _) _⟩
#print axioms wordD_ok
#print axioms stepD
#print axioms wrongD
end Go.Proofs.Ytdohjolgcmokhaa
