/-
  A value's bits, taken out of a row.
  Unpack.
-/
import Derived.Test.YtcdmldnaagiicaaDoorGg
import Derived.WalkSmall
import Derived.Test.YtcdmldnaagiicaaDoorTk9
namespace Go.Proofs.YtcdmldnaagiicaaDoor
open Go.RowKit

/-- The bytes of bits of a row. -/
def tkB (zs : List Int) (nx n : Nat) : List Int := layB zs nx n 0 (List.replicate ((n + 7) / 8) 0)
theorem tkB_len (zs : List Int) (nx n : Nat) : (tkB zs nx n).length = (n + 7) / 8 := by unfold tkB layB; rw [layL_len]; simp

set_option linter.unusedSimpArgs false in
set_option maxHeartbeats 4000000 in
set_option maxRecDepth 100000 in
theorem take_any (n nx Bb Bx : Nat) (a : Option Addr) (len cap : Nat) (zs : List Int) (w : World) (hb : w.heap[Bb]? = some (.cells #[.slice a len cap] 34 (0, 0))) (hx : w.heap[Bx]? = some (.cells #[.int .i64 (nx : Int)] 3 (0, 0))) (hr : Row w a len zs) (hn : n ≤ 64) (hl : nx + n ≤ 8 * len) (hlen : len ≤ 1000000) :
    Calls Tryd.prog 39 #[.int .i64 (n : Int), .pointer (some ⟨Bb, 0, none⟩), .pointer (some ⟨Bx, 0, none⟩)] w fun e w' => ∃ g, e = .returned (.slice (some ⟨g, 0, none⟩) ((n + 7) / 8) ((n + 7) / 8)) ∧ w.heap.size ≤ g ∧ w'.heap[g]? = some (.cells ((tkB zs nx n).map (Value.int .u8)).toArray 5 (0, 0)) ∧ w'.heap[Bx]? = some (.cells #[.int .i64 ((nx + n : Nat) : Int)] 3 (0, 0)) ∧ Kp [Bx] w w' := by
  obtain ⟨R, hR⟩ : ∃ R, Hid (R = (n + 7) / 8) := ⟨_, rfl⟩
  rw [← hR.out]
  have HF : Hid (∀ W, Calls Tryd.prog 25 #[.int .i64 (n : Int)] W fun e w' => e = .returned (.int .i64 (R : Int)) ∧ w' = W) := fun W => by rw [hR.out]; exact bytesFor_any n W (by omega)
  have MK := mkZ R (by have := hR.out; omega)
  have HB : Hid (w.heap[Bb]? = some (.cells #[.slice a len cap] 34 (0, 0))) := hb
  have HX : Hid (w.heap[Bx]? = some (.cells #[.int .i64 (nx : Int)] 3 (0, 0))) := hx
  have HW : Hid (Row w a len zs) := hr
  have lb := lt_of_heap hb
  have lx := lt_of_heap hx
  have c0 : w.cell? ⟨Bb, 0, none⟩ = some (.slice a len cap) := by rw [cell_of_row _ _ 0 _ _ _ hb]; rfl
  have c1 : w.cell? ⟨Bx, 0, none⟩ = some (.int .i64 (nx : Int)) := by rw [cell_of_row _ _ 0 _ _ _ hx]; rfl
  clear hb hx hr
  go_enter Tryd.func39, Tryd.ntmps39
  go_wp2_with fail
  refine (HF.out _).mono ?_
  rintro e w1 ⟨rfl, rfl⟩
  go_wp2_with fail
  refine (bits_any a len cap nx n _).mono ?_
  rintro e w2 ⟨rfl, rfl⟩
  go_wp2_with fail
  obtain ⟨V, HV⟩ : ∃ V, Hid (w1.alloc (.cells (zC R) 5) = V) := ⟨_, rfl⟩
  have BV : Hid (Below w1.heap.size w1 V) := by show Below _ _ _; rw [← HV.out]; exact (by repeat (first | exact Below.refl _ _ | apply Below.drew | apply Below.al))
  have SV : Hid (V.heap.size = w1.heap.size + 1) := by show _ = _; rw [← HV.out]; simp
  have GV : Hid (V.heap[w1.heap.size]? = some (.cells ((List.replicate R (0 : Int)).map (Value.int .u8)).toArray 5 (0, 0))) := by show _ = _; rw [← HV.out]; exact heap_new _ _
  have old : Hid (0 < len → ∀ b o, a = some ⟨b, o, none⟩ → b < w1.heap.size) := fun hp b o e => HW.out.old hp b o e
  rw [show w1.alloc (.cells (zC R) 5) = V from HV.out]
  have sv := SV.out
  refine (lay_any _ (w1.heap.size + 1 + 1 + 1) (w1.heap.size + 1 + 1) (w1.heap.size + 1) w1.heap.size R nx 0 n a len cap zs (List.replicate R 0) (by omega) hlen (by have := hR.out; omega) (by have := hR.out; omega) (by simp) (by omega) (by omega) (by omega) ?_ ?_ (ext11 (ext11 (ext11 GV.out)))).mono ?_
  · intro hp b o e
    have := old.out hp b o e
    omega
  · exact ⟨at11 _ _ _ (by simp; omega), ext11 (at11 _ _ _ (by simp; omega)), ext11 (ext11 (at11 _ _ _ sv.symm)), (HW.out.next BV.out).next (by repeat (first | exact Below.refl _ _ | apply Below.drew | apply Below.al))⟩
  rintro e w5 ⟨rfl, h5, k5⟩
  have X5 : Hid (w5.heap[Bx]? = some (.cells #[.int .i64 (nx : Int)] 3 (0, 0))) := k5.at (by simp; omega) (ext11 (ext11 (ext11 (blk11 BV.out HX.out))))
  have d1 : w5.cell? ⟨Bx, 0, none⟩ = some (.int .i64 (nx : Int)) := by rw [cell_of_row _ _ 0 _ _ _ X5.out]; rfl
  have f1 : w5.frozen? ⟨Bx, 0, none⟩ = false := frozen_of_row _ _ _ _ _ X5.out
  have H5 : Hid (w5.heap[w1.heap.size]? = some (.cells ((tkB zs nx n).map (Value.int .u8)).toArray 5 (0, 0))) := by
    show _ = _
    unfold tkB
    rw [← hR.out]
    exact h5
  have K5 : Hid (Below w1.heap.size w1 w5) := Kp.below (Below.al (Below.al (Below.al BV.out _) _) _) k5 (by have := BV.out.size; simp; omega) (by simp)
  have wn : IntKind.i64.wrap ((nx : Int) + (n : Int)) = ((nx + n : Nat) : Int) := by rw [IntKind.wrap_i64]; omega
  clear h5 k5 c0 c1
  go_wp2_with fail
  go_ret
  refine ⟨w1.heap.size, rfl, Nat.le_refl _, ?_, ?_, ?_⟩
  · exact (heap_setCell_other _ _ _ _ (by show ¬ w1.heap.size = Bx; omega)).trans H5.out
  · rw [heap_setCell_same w5 Bx 0 _ _ _ X5.out]
    simp
  · exact (Kp.of K5.out).set _ _ (.inl (by simp))
#print axioms take_any
end Go.Proofs.YtcdmldnaagiicaaDoor
namespace Go.Proofs.YtcdmldnaagiicaaDoor
open Go.RowKit

/-- A value for a place, in a block of its own. -/
structure Vq where
  i : Int
  s : Int
  g : Nat
  r : Nat
/-- Its cells. -/
abbrev Vq.A (x : Vq) : Array Value := #[.int .u16 x.i, .int .u8 x.s, .slice (some ⟨x.g, 0, none⟩) x.r x.r]
def Vq.L (x : Vq) : List Value := x.A.toList
/-- The cells of a row of them. -/
def flv (l : List Vq) : List Value := l.flatMap Vq.L
theorem Vq.L_len (x : Vq) : x.L.length = 3 := rfl
theorem flv_len (l : List Vq) : (flv l).length = l.length * 3 := by
  unfold flv
  induction l with
  | nil => rfl
  | cons x l ih => rw [List.flatMap_cons, List.length_append, ih, Vq.L_len, List.length_cons]; omega
theorem flv_app (l m : List Vq) : flv (l ++ m) = flv l ++ flv m := by unfold flv; rw [List.flatMap_append]
theorem flv_one (x : Vq) : flv [x] = x.L := by unfold flv; simp
theorem flv_at (l : List Vq) (i : Nat) (x : Vq) (h : l[i]? = some x) : ((flv l).drop (i * 3)).take 3 = x.L := by
  obtain ⟨hi, he⟩ := List.getElem?_eq_some_iff.1 h
  have e : l = l.take i ++ (x :: l.drop (i + 1)) := by rw [← he, List.getElem_cons_drop, List.take_append_drop]
  have e2 : flv l = flv (l.take i) ++ (x.L ++ flv (l.drop (i + 1))) := by
    conv => lhs; rw [e]
    rw [flv_app]
    rfl
  have hl : (flv (l.take i)).length = i * 3 := by rw [flv_len, List.length_take]; congr 1; omega
  rw [e2, List.drop_append_of_le_length (by omega), List.drop_of_length_le (by omega), List.nil_append, List.take_append_of_le_length (by rw [Vq.L_len]; omega), List.take_of_length_le (by rw [Vq.L_len]; omega)]
theorem sizeV : (Tryd.prog.info? 36).map (·.size) = some 3 := by kernel_rfl
theorem aggV : ∀ w, (isAgg 36).run Tryd.prog w = .ok true w := fun w => by simp [isAgg, run_underlying Tryd.underlying36]
/-- What waits, in memory of its own. -/
abbrev IsV (w : World) (base : Nat) (v : Value) (l : List Vq) : Prop := w.ownsRow base 36 3 v l.length (flv l)
theorem IsV.form {w : World} {base : Nat} {v : Value} {l : List Vq} (h : IsV w base v l) : (v = .slice none 0 0 ∧ l = []) ∨ ∃ g cap cur, v = .slice (some ⟨g, 0, none⟩) l.length cap ∧ base ≤ g ∧ w.heap[g]? = some (.cells cur 36 (0, 0)) ∧ l.length ≤ cap ∧ cap ≤ maxLen ∧ cur.size = cap * 3 ∧ cur.toList.take (l.length * 3) = flv l := by
  rcases h.2 with ⟨h1, h2⟩ | ⟨g, cap, cur, hv, hg, hh, hn, hm, hs, ht⟩
  · exact .inl ⟨h1, List.eq_nil_of_length_eq_zero h2⟩
  · exact .inr ⟨g, cap, cur, hv, hg, hh, hn, hm, hs, ht⟩
/-- One of them out of memory. -/
theorem IsV.load {w : World} {base g cap : Nat} {l : List Vq} (h : IsV w base (.slice (some ⟨g, 0, none⟩) l.length cap) l) (i : Nat) (x : Vq) (hx : l[i]? = some x) : (loadVar 36 ⟨g, i * 3, none⟩).run Tryd.prog w = .ok (.agg x.A) w := by
  have hi : i < l.length := (List.getElem?_eq_some_iff.1 hx).1
  rcases h.form with ⟨h1, _⟩ | ⟨g', cap', cur, hv, _, hh, hn, _, hs, ht⟩
  · cases h1
  · cases hv
    have := load_part 36 3 sizeV aggV w g (i * 3) cur.toList 36 hh (by simp [hs]; omega)
    rw [this]
    have e : (cur.toList.drop (i * 3)).take 3 = x.L := by
      rw [← flv_at l i x hx, ← ht, List.drop_take, List.take_take, Nat.min_eq_left (by omega)]
    rw [e]
    rfl

theorem infoV : (Tryd.prog.info? 36).map (fun i => (i.zero, i.size, i.bytes)) = some (some (.agg #[.int .u16 0, .int .u8 0, .slice none 0 0]), 3, 32) := by kernel_rfl
theorem isV_nil (w : World) (b : Nat) : IsV w b (.slice none 0 0) [] := ⟨rfl, .inl ⟨rfl, rfl⟩⟩
theorem IsV.ne {w : World} {base b : Nat} {v : Value} {us : List Vq} {C : Array Value} {T : TypeId} {f : Nat × Nat} (h : IsV w base v us) (hb : w.heap[b]? = some (.cells C T f)) (hT : T ≠ 36) : some b ≠ v.ownBlock := by
  rcases h.2 with ⟨h1, _⟩ | ⟨g, cap, cur, hv, _, hh, _⟩
  · rw [h1]; intro e; cases e
  · rw [hv]
    intro e
    simp only [Value.ownBlock] at e
    cases e
    rw [hh] at hb
    cases hb
    exact hT rfl
theorem IsV.same {w w' : World} {base : Nat} {v : Value} {l : List Vq} (h : IsV w base v l) (hk : ∀ k, v.ownBlock = some k → w'.heap[k]? = w.heap[k]?) : IsV w' base v l := by
  refine ⟨h.1, ?_⟩
  rcases h.2 with ⟨h1, h2⟩ | ⟨g, cap, cur, hv, hb, hh, r⟩
  · exact .inl ⟨h1, h2⟩
  · exact .inr ⟨g, cap, cur, hv, hb, (hk g (by rw [hv]; rfl)).trans hh, r⟩
theorem IsV.next {w w' : World} {base : Nat} {v : Value} {l : List Vq} (h : IsV w base v l) (hb : Below w.heap.size w w') : IsV w' base v l := h.same fun k hk => hb.block k (h.lt k hk).2
/-- One value put behind those of a row of its own. -/
theorem wpList_append_value {ops : Array Oper} {rest : List Oper} {o : Oper} {a : Act} {w : World} {Q : Exit → Act → World → Prop} (hgd : o.guard = none) (s x : Operand)
    (ho : o.op = .call { callee := .builtin .append, args := #[s, x], argTypes := #[24, 24] }) (base : Nat) (v : Value) (l : List Vq) (hs : a.eval s = v) (hown : IsV w base v l)
    (ad : Addr) (y : Vq) (hx : a.eval x = .slice (some ad) 1 1) (hnews : ∀ j u, y.L[j]? = some u → w.cell? (ad.add j) = some u) (h63 : l.length ≤ 1000000) (hbase : base ≤ w.heap.size)
    (h : ∀ v' w', IsV w' base v' (l ++ [y]) → w.grownBy w' v.ownBlock → wpList Tryd.prog ops Q rest (a.put o.dst v') w') : wpList Tryd.prog ops Q (o :: rest) a w := by
  obtain ⟨i0, hi, hz0, hz1, hz2⟩ := info_parts infoV
  refine wpList_append_own (P := Tryd.prog) w hgd s x 24 ho base 36 i0 _ 3 32 Tryd.underlying24 hi hz0 hz1 hz2 rfl (by decide) v l.length _ hs hown ad 1 1 y.L hx (Vq.L_len y) hnews (fun u hu => by simp [Vq.L] at hu; rcases hu with rfl | rfl | rfl <;> rfl) (by unfold maxLen; omega) (by omega) hbase ?_
  intro v' w' h1 h2 _
  refine h v' w' ?_ h2
  show w'.ownsRow base 36 3 v' (l ++ [y]).length (flv (l ++ [y]))
  rw [flv_app, flv_one, List.length_append]
  exact h1

set_option linter.unusedSimpArgs false in
set_option maxHeartbeats 4000000 in
set_option maxRecDepth 100000 in
theorem unpack_ok (p m : Nat) (cg : Int) (lst : Mp) (gm N cap : Nat) (ms : List Mq) (a : Option Addr) (len capb : Nat) (zs : List Int) (w : World) (hp : w.heap[p]? = some (.cells #[.map (some m), .int .i64 cg] 58 (0, 0))) (hm : IsM w m lst) (hN : ms.length = N) (h64 : N ≤ 64) (hM : MsAt w gm ms) (hO : ∀ x ∈ ms, MpOk w lst false x) (hs : sumB ms N ≤ 64) (hr : Row w a len zs) (hlen : (sumB ms N + 7) / 8 ≤ len) (hlen2 : len ≤ 1000)
    (HMay : ∀ W, Below w.heap.size w W → ∀ k x g, ms[k]? = some x → W.heap[g]? = some (.cells ((tkB zs (sumB ms k) x.b).map (Value.int .u8)).toArray 5 (0, 0)) → Calls Tryd.prog 13 #[.pointer (some ⟨p, 0, none⟩), plV x.i x.s, .slice (some ⟨g, 0, none⟩) ((x.b + 7) / 8) ((x.b + 7) / 8)] W fun e w' => ∃ tg, e = .returned (.tuple #[.int .u8 tg, .int .u32 0]) ∧ Below W.heap.size W w') :
    Calls Tryd.prog 26 #[.pointer (some ⟨p, 0, none⟩), .slice (some ⟨gm, 0, none⟩) N cap, .slice a len capb] w fun e w' => ∃ v us, e = .returned (.tuple #[v, .int .u32 0]) ∧ IsV w' w.heap.size v us ∧ us.length = N ∧ (∀ j x, j < N → ms[j]? = some x → ∃ g, us[j]? = some ⟨x.i, x.s, g, (x.b + 7) / 8⟩ ∧ w.heap.size ≤ g ∧ w'.heap[g]? = some (.cells ((tkB zs (sumB ms j) x.b).map (Value.int .u8)).toArray 5 (0, 0))) ∧ Below w.heap.size w w' := by
  obtain ⟨R, hR⟩ : ∃ R, Hid (R = (sumB ms N + 7) / 8) := ⟨_, rfl⟩
  have HC : Hid (∀ W, Below w.heap.size w W → Calls Tryd.prog 8 #[.pointer (some ⟨p, 0, none⟩), .slice (some ⟨gm, 0, none⟩) N cap, .bool false] W fun e w' => e = .returned (.int .u32 0) ∧ Below W.heap.size W w') := fun W hb => check_ok false p m cg lst gm N cap ms W (blk11 hb hp) (hm.next hb) hN h64 (hM.next hb) (fun x hx => (hO x hx).next hb) hs
  have HS : Hid (∀ W, Below w.heap.size w W → Calls Tryd.prog 10 #[.slice (some ⟨gm, 0, none⟩) N cap] W fun e w' => e = .returned (.int .i64 (R : Int)) ∧ Below W.heap.size W w') := fun W hb => by rw [hR.out]; exact size_ok gm N cap ms W hN h64 (hM.next hb) hs
  have HI : Hid (∀ x ∈ ms, 256 ≤ x.i ∧ x.i < 65536) := fun x hx => by
    obtain ⟨_, _, _, _, _, _, _, _, _, _, _, _, _, _, _, _, _, _, _, _, _, _, _, _, _, _, _, g1, g2, _⟩ := hO x hx
    exact ⟨g1, g2⟩
  have HY : Hid (∀ W, Below w.heap.size w W → ∀ k x g, ms[k]? = some x → W.heap[g]? = some (.cells ((tkB zs (sumB ms k) x.b).map (Value.int .u8)).toArray 5 (0, 0)) → Calls Tryd.prog 13 #[.pointer (some ⟨p, 0, none⟩), plV x.i x.s, .slice (some ⟨g, 0, none⟩) ((x.b + 7) / 8) ((x.b + 7) / 8)] W fun e w' => ∃ tg, e = .returned (.tuple #[.int .u8 tg, .int .u32 0]) ∧ Below W.heap.size W w') := HMay
  have HM : Hid (MsAt w gm ms) := hM
  have HW : Hid (Row w a len zs) := hr
  have hRl : R ≤ len := by have := hR.out; omega
  clear hp hm hM hO hr HMay
  go_enter Tryd.func26, Tryd.ntmps26
  go_wp2_with fail
  refine (HC.out _ (by repeat (first | exact Below.refl _ _ | apply Below.drew | apply Below.al))).mono ?_
  rintro e w1 ⟨rfl, hb1⟩
  have B1 : Hid (Below w.heap.size w w1) := Below.andThen (by repeat (first | exact Below.refl _ _ | apply Below.drew | apply Below.al)) hb1
  have HB1 : Hid (w1.heap[w.heap.size]? = some (.cells #[.slice a len capb] 34 (0, 0))) := blk11 hb1 (at11 _ _ _ rfl)
  clear hb1
  go_wp2_with fail
  refine wp_region_held_drew (S := fun z => Below w1.heap.size w1 z) (by kernel_rfl) (Below.drew (Below.refl _ _)) (fun hHeld => ?_)
  refine tk 0 (.slice a len capb) rfl (.inl ⟨by rfl, ?_⟩) ?_
  · intro w9 hSw
    try dsimp only at hSw
    have c9 : w9.cell? ⟨w.heap.size, 0, none⟩ = some (.slice a len capb) := by rw [cell_of_row _ _ 0 _ _ _ (blk11 hSw HB1.out)]; rfl
    go_simp
    all_goals try assumption
  try simp only [Act.put, gA, gS, gZ, sA, sZ, sS]
  refine tk 1 (.int .i64 (len : Int)) rfl (.inl ⟨by rfl, ?_⟩) ?_
  · intro w9 hSw
    try dsimp only at hSw
    go_simp
    all_goals try decide
    all_goals try assumption
    all_goals try omega
  try simp only [Act.put, gA, gS, gZ, sA, sZ, sS]
  refine tk 2 (.slice (some ⟨gm, 0, none⟩) N cap) rfl (.inl ⟨by rfl, ?_⟩) ?_
  · intro w9 hSw
    try dsimp only at hSw
    go_simp
    all_goals try decide
    all_goals try assumption
    all_goals try omega
  try simp only [Act.put, gA, gS, gZ, sA, sZ, sS]
  refine wpAnyH_ready (rs := [3]) (by kernel_rfl) (by simp) ?_
  refine AllReadyH.cons rfl (fun K' hK => ?_) AllReadyH.nil
  rw [if_pos (by rfl)]
  simp only [gA, gS, gZ]
  go_wp2_with fail
  refine (HS.out _ (Below.andThen B1.out (Below.drew (Below.refl _ _)))).mono ?_
  rintro e z3 ⟨rfl, hb3⟩
  have N3 : Hid (Below w1.heap.size w1 z3) := Below.andThen (Below.drew (Below.refl _ _)) hb3
  clear hb3
  try go_wp2_with fail
  refine hK.out _ _ (N3.out) (fun hHeld => ?_)
  clear hK K'
  try simp only [Act.put, gA, gS, gZ, sA, sZ, sS]
  refine tk 4 (.bool false) rfl (.inl ⟨by rfl, ?_⟩) ?_
  · intro w9 hSw
    try dsimp only at hSw
    have q1 : ¬ ((len : Int) < (R : Int)) := by omega
    go_simp
    all_goals try omega
  try simp only [Act.put, gA, gS, gZ, sA, sZ, sS]
  refine wpAnyH_done (by kernel_rfl) ?_ _
  have B3 : Hid (Below w.heap.size w z3) := Below.andThen B1.out hHeld
  have HB3 : Hid (z3.heap[w.heap.size]? = some (.cells #[.slice a len capb] 34 (0, 0))) := blk11 hHeld HB1.out
  clear hHeld N3
  go_wp2_with fail
  obtain ⟨Bx, hBx⟩ : ∃ Bx, Hid (Bx = z3.heap.size) := ⟨_, rfl⟩
  rw [← hBx.out]
  have BX0 : Hid ((z3.alloc (.cells #[.int .i64 0] 3)).heap[Bx]? = some (.cells #[.int .i64 0] 3 (0, 0))) := by show _ = _; rw [hBx.out]; exact heap_new _ _
  have nBx : Bx ≠ w.heap.size := by have := lt_of_heap HB3.out; have := hBx.out; omega
  have gBx : w.heap.size ≤ Bx := by have := B3.out.size; have := hBx.out; omega
  go_loopw [11, 31] (fun u11 iv wr => ∃ (k : Nat) (us : List Vq), k ≤ N ∧ iv = .int .i64 (k : Int) ∧ Hid (IsV wr w.heap.size u11 us ∧ us.length = k ∧ (∀ j x, j < k → ms[j]? = some x → ∃ g, us[j]? = some ⟨x.i, x.s, g, (x.b + 7) / 8⟩ ∧ w.heap.size ≤ g ∧ wr.heap[g]? = some (.cells ((tkB zs (sumB ms j) x.b).map (Value.int .u8)).toArray 5 (0, 0))) ∧ wr.heap[w.heap.size]? = some (.cells #[.slice a len capb] 34 (0, 0)) ∧ wr.heap[Bx]? = some (.cells #[.int .i64 ((sumB ms k : Nat) : Int)] 3 (0, 0)) ∧ Below w.heap.size w wr)) (fun _ iv _ => N - (intOf iv).toNat)
  case atStart => exact ⟨0, [], Nat.zero_le _, rfl, isV_nil _ _, rfl, fun j x hj => absurd hj (by omega), ext11 HB3.out, BX0.out, Below.al B3.out _⟩
  case round =>
    obtain ⟨k, us, hk, rfl, HR⟩ := hrel
    by_cases hkN : k < N
    · have gk : (k : Int) < (N : Int) := by omega
      have gk0 : (0 : Int) ≤ (k : Int) := by omega
      obtain ⟨x, hx⟩ : ∃ x, ms[k]? = some x := ⟨_, List.getElem?_eq_getElem (by omega)⟩
      obtain ⟨r1, r2, r3, r4, r5, r6⟩ := HR.out
      obtain ⟨c0, c1, c2⟩ := (HM.out.next r6) k x hx
      have hx1 : Hid (ms[k]? = some x) := hx
      have HXm : Hid (x ∈ ms) := List.mem_of_getElem? hx
      have SS : Hid (sumB ms (k + 1) = sumB ms k + x.b) := sumB_succ hx
      have SL : Hid (sumB ms (k + 1) ≤ sumB ms N) := sumB_le ms (by omega)
      have wk : IntKind.i64.wrap ((k : Int) + 1) = ((k + 1 : Nat) : Int) := by rw [IntKind.wrap_i64]; omega
      have R1 : Hid (IsV wr w.heap.size u11 us) := r1
      have R2 : Hid (us.length = k) := r2
      have R3 : Hid (∀ j x, j < k → ms[j]? = some x → ∃ g, us[j]? = some ⟨x.i, x.s, g, (x.b + 7) / 8⟩ ∧ w.heap.size ≤ g ∧ wr.heap[g]? = some (.cells ((tkB zs (sumB ms j) x.b).map (Value.int .u8)).toArray 5 (0, 0))) := r3
      have R4 : Hid (wr.heap[w.heap.size]? = some (.cells #[.slice a len capb] 34 (0, 0))) := r4
      have R5 : Hid (wr.heap[Bx]? = some (.cells #[.int .i64 ((sumB ms k : Nat) : Int)] 3 (0, 0))) := r5
      have R6 : Hid (Below w.heap.size w wr) := r6
      clear r1 r2 r3 r4 r5 r6 HR hx
      go_wp2_with fail
      refine (take_any x.b (sumB ms k) w.heap.size Bx a len capb zs _ (ext11 R4.out) (ext11 R5.out) ((HW.out.next R6.out).next (by repeat (first | exact Below.refl _ _ | apply Below.drew | apply Below.al))) (by have := SS.out; have := SL.out; omega) (by have := SS.out; have := SL.out; have := hR.out; omega) (by omega)).mono ?_
      rintro e w2 ⟨g, rfl, hg, g2, x2, k2⟩
      have lBx : Bx < wr.heap.size := lt_of_heap R5.out
      have hgw : wr.heap.size + 1 ≤ g := by simpa using hg
      have X2 : Hid (w2.heap[wr.heap.size]? = some (.cells #[.int .u16 x.i, .int .u8 x.s, .int .i64 (x.b : Int)] 48 (0, 0))) := k2.at (by simp; omega) (at11 _ _ _ rfl)
      have G2 : Hid (w2.heap[g]? = some (.cells ((tkB zs (sumB ms k) x.b).map (Value.int .u8)).toArray 5 (0, 0))) := g2
      have XX2 : Hid (w2.heap[Bx]? = some (.cells #[.int .i64 ((sumB ms (k + 1) : Nat) : Int)] 3 (0, 0))) := by rw [SS.out]; exact x2
      have B2 : Hid (Below w.heap.size w w2) := Kp.below (Below.al R6.out _) k2 (by have := R6.out.size; simp; omega) (by simp; omega)
      have V2 : Hid (IsV w2 w.heap.size u11 us) := (R1.out.next (Below.al (Below.refl _ _) (.cells #[.int .u16 x.i, .int .u8 x.s, .int .i64 (x.b : Int)] 48))).same fun kk hkk => k2.block kk (by have := (R1.out.lt kk hkk).2; simp; omega) (by
        intro hmm
        simp at hmm
        subst hmm
        exact R1.out.ne R5.out (by decide) hkk.symm)
      have J2 : Hid (∀ j x, j < k → ms[j]? = some x → ∃ g, us[j]? = some ⟨x.i, x.s, g, (x.b + 7) / 8⟩ ∧ w.heap.size ≤ g ∧ w2.heap[g]? = some (.cells ((tkB zs (sumB ms j) x.b).map (Value.int .u8)).toArray 5 (0, 0))) := fun j x hj hx => by
        obtain ⟨g', q1, q2, q3⟩ := R3.out j x hj hx
        refine ⟨g', q1, q2, k2.at ?_ (ext11 q3)⟩
        intro hmm
        simp at hmm
        subst hmm
        rw [R5.out] at q3
        simp at q3
      have A2 : Hid (w2.heap[w.heap.size]? = some (.cells #[.slice a len capb] 34 (0, 0))) := k2.at (by simp; omega) (ext11 R4.out)
      have d0 : w2.cell? ⟨wr.heap.size, 0, none⟩ = some (.int .u16 x.i) := by rw [cell_of_row _ _ 0 _ _ _ X2.out]; rfl
      have d1 : w2.cell? ⟨wr.heap.size, 1, none⟩ = some (.int .u8 x.s) := by rw [cell_of_row _ _ 1 _ _ _ X2.out]; rfl
      have d2 : w2.cell? ⟨wr.heap.size, 2, none⟩ = some (.int .i64 (x.b : Int)) := by rw [cell_of_row _ _ 2 _ _ _ X2.out]; rfl
      have hi := HI.out x HXm.out
      clear hg g2 x2 k2 c0 c1 c2 R1 R3 R4 R5 R6
      go_wp2_with fail
      refine (isGap_no x.i x.s x.b _ hi.1 hi.2).mono ?_
      rintro e w3 ⟨rfl, hb3⟩
      have B3 : Hid (Below w.heap.size w w3) := Below.andThen B2.out hb3
      have N3 : Hid (Below w2.heap.size w2 w3) := hb3
      have X3 := blk11 hb3 X2.out
      have e0 : w3.cell? ⟨wr.heap.size, 0, none⟩ = some (.int .u16 x.i) := by rw [cell_of_row _ _ 0 _ _ _ X3]; rfl
      have e1 : w3.cell? ⟨wr.heap.size, 1, none⟩ = some (.int .u8 x.s) := by rw [cell_of_row _ _ 1 _ _ _ X3]; rfl
      have HX3 : Hid (w3.heap[wr.heap.size]? = some (.cells #[.int .u16 x.i, .int .u8 x.s, .int .i64 (x.b : Int)] 48 (0, 0))) := X3
      clear hb3 d0 d1 d2 X3
      go_wp2_with fail
      refine (HY.out _ B3.out k x g hx1.out (blk11 N3.out G2.out)).mono ?_
      rintro e w4 ⟨tg, rfl, hb4⟩
      have B4 : Hid (Below w.heap.size w w4) := Below.andThen B3.out hb4
      have N4 : Hid (Below w2.heap.size w2 w4) := Below.andThen N3.out hb4
      have X4 := blk11 hb4 HX3.out
      have f0 : w4.cell? ⟨wr.heap.size, 0, none⟩ = some (.int .u16 x.i) := by rw [cell_of_row _ _ 0 _ _ _ X4]; rfl
      have f1 : w4.cell? ⟨wr.heap.size, 1, none⟩ = some (.int .u8 x.s) := by rw [cell_of_row _ _ 1 _ _ _ X4]; rfl
      have V4 : Hid (IsV w4 w.heap.size u11 us) := V2.out.next N4.out
      clear hb4 e0 e1 X4
      have hul : us.length ≤ 1000000 := by have := R2.out; omega
      go_wp2_with (first | (at_builtin; refine wpList_append_value rfl _ _ rfl w.heap.size u11 us rfl (V4.out.next (by repeat (first | exact Below.refl _ _ | apply Below.drew | apply Below.al))) ⟨w4.heap.size, 0, none⟩ ⟨x.i, x.s, g, (x.b + 7) / 8⟩ rfl ?q1 hul ?q2 ?_) | go_in)
      case q1 =>
        intro j u hj
        rw [Addr.add_lit, Nat.zero_add]
        match j, hj with
        | 0, hj => rw [cell_of_row _ _ 0 _ _ _ (at11 _ _ _ rfl)]; simpa [Vq.L] using hj
        | 1, hj => rw [cell_of_row _ _ 1 _ _ _ (at11 _ _ _ rfl)]; simpa [Vq.L] using hj
        | 2, hj => rw [cell_of_row _ _ 2 _ _ _ (at11 _ _ _ rfl)]; simpa [Vq.L] using hj
      case q2 => have := B4.out.size; simp; omega
      intro v' z hz hgr
      have KEEP : ∀ (b : Nat) (C : Array Value) (T : TypeId) (f : Nat × Nat), w4.heap[b]? = some (.cells C T f) → T ≠ 36 → z.heap[b]? = some (.cells C T f) := fun b C T f hb hT => by
        rw [hgr.block b (by have := lt_of_heap hb; simp; omega) (V4.out.ne hb hT), Below.heap_alloc _ _ _ (lt_of_heap hb)]
        exact hb
      have BZ : Hid (Below w.heap.size w z) := ⟨hgr.os.trans B4.out.os, hgr.tape.trans B4.out.tape, hgr.output.trans B4.out.output, by have := hgr.size; simp at this; have := B4.out.size; omega, fun kk hkk => by
        have s4 := B4.out.size
        rw [hgr.block kk (by simp; omega) (fun e => by have := (V4.out.lt kk e.symm).1; omega), Below.heap_alloc _ _ _ (by omega)]
        exact B4.out.block kk hkk⟩
      have FIN : Hid (IsV z w.heap.size v' (us ++ [⟨x.i, x.s, g, (x.b + 7) / 8⟩]) ∧ (us ++ [(⟨x.i, x.s, g, (x.b + 7) / 8⟩ : Vq)]).length = k + 1 ∧ (∀ j x', j < k + 1 → ms[j]? = some x' → ∃ g', (us ++ [(⟨x.i, x.s, g, (x.b + 7) / 8⟩ : Vq)])[j]? = some ⟨x'.i, x'.s, g', (x'.b + 7) / 8⟩ ∧ w.heap.size ≤ g' ∧ z.heap[g']? = some (.cells ((tkB zs (sumB ms j) x'.b).map (Value.int .u8)).toArray 5 (0, 0))) ∧ z.heap[w.heap.size]? = some (.cells #[.slice a len capb] 34 (0, 0)) ∧ z.heap[Bx]? = some (.cells #[.int .i64 ((sumB ms (k + 1) : Nat) : Int)] 3 (0, 0)) ∧ Below w.heap.size w z) := by
        refine ⟨hz, by simp [R2.out], fun j x' hj hx' => ?_, KEEP _ _ _ _ (blk11 N4.out A2.out) (by decide), KEEP _ _ _ _ (blk11 N4.out XX2.out) (by decide), BZ.out⟩
        have hl := R2.out
        rcases Nat.lt_or_ge j k with hjk | hjk
        · obtain ⟨g', q1, q2, q3⟩ := J2.out j x' hjk hx'
          exact ⟨g', by rw [List.getElem?_append_left (by omega)]; exact q1, q2, KEEP _ _ _ _ (blk11 N4.out q3) (by decide)⟩
        · obtain rfl : j = k := by omega
          have e := hx1.out
          rw [hx'] at e
          cases e
          exact ⟨g, by rw [List.getElem?_append_right (by omega), hl]; simp, by have := BZ.out.size; have := B2.out.size; omega, KEEP _ _ _ _ (blk11 N4.out G2.out) (by decide)⟩
      clear hz hgr KEEP f0 f1
      go_wp2_with fail
      exact ⟨⟨k + 1, _, by omega, by go_num, FIN.out⟩, by simp [intOf]; omega⟩
    · obtain rfl : k = N := by omega
      obtain ⟨r1, r2, r3, r4, r5, r6⟩ := HR.out
      have R : Hid (∃ us, IsV wr w.heap.size u11 us ∧ us.length = k ∧ (∀ j x, j < k → ms[j]? = some x → ∃ g, us[j]? = some ⟨x.i, x.s, g, (x.b + 7) / 8⟩ ∧ w.heap.size ≤ g ∧ wr.heap[g]? = some (.cells ((tkB zs (sumB ms j) x.b).map (Value.int .u8)).toArray 5 (0, 0))) ∧ Below w.heap.size w wr) := ⟨us, r1, r2, r3, r6⟩
      clear r1 r2 r3 r4 r5 r6 HR
      go_wp2_with fail
      go_ret2
      obtain ⟨us, q⟩ := R.out
      exact ⟨_, us, rfl, q⟩
#print axioms unpack_ok
end Go.Proofs.YtcdmldnaagiicaaDoor
