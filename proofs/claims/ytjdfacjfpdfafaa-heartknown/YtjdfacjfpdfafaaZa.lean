/-
  Rows of one's own, wherever they begin in their block: read, appended to, without their first.
-/
import Derived.Test.YtjdfacjfpdfafaaYb
import Derived.Deep.AppendLies
namespace Go.Proofs.Ytjdfacjfpdfafaa
open Go.RowKit

/-- n elements of k cells each at a place of a block, with room. -/
structure OwnAt (w : World) (e : TypeId) (k g o n cap : Nat) (xs : List Value) : Prop where
  len : xs.length = n * k
  cur : ∃ cur : Array Value, w.heap[g]? = some (.cells cur e (0, 0)) ∧ o + cap * k ≤ cur.size ∧ (cur.toList.drop o).take (n * k) = xs
  nc : n ≤ cap
  cm : cap ≤ maxLen
/-- A row of one's own, or none. -/
def Own (w : World) (e : TypeId) (k : Nat) (v : Value) (n : Nat) (xs : List Value) : Prop :=
  (v = .slice none 0 0 ∧ n = 0 ∧ xs = []) ∨ ∃ g o cap, v = .slice (some ⟨g, o, none⟩) n cap ∧ OwnAt w e k g o n cap xs
theorem own_nil (w : World) (e : TypeId) (k : Nat) : Own w e k (.slice none 0 0) 0 [] := .inl ⟨rfl, rfl, rfl⟩
theorem add_at (g o j : Nat) : (⟨g, o, none⟩ : Addr).add j = ⟨g, o + j, none⟩ := by unfold Addr.add; split <;> simp_all
theorem OwnAt.same {w w' : World} {e : TypeId} {k g o n cap : Nat} {xs : List Value} (h : OwnAt w e k g o n cap xs) (hb : w'.heap[g]? = w.heap[g]?) : OwnAt w' e k g o n cap xs := by
  obtain ⟨cur, c1, c2, c3⟩ := h.cur
  exact ⟨h.len, ⟨cur, hb.trans c1, c2, c3⟩, h.nc, h.cm⟩
theorem OwnAt.lt {w : World} {e : TypeId} {k g o n cap : Nat} {xs : List Value} (h : OwnAt w e k g o n cap xs) : g < w.heap.size := by
  obtain ⟨cur, c1, _⟩ := h.cur
  exact lt_of_heap c1
theorem OwnAt.cell {w : World} {e : TypeId} {k g o n cap : Nat} {xs : List Value} (h : OwnAt w e k g o n cap xs) (j : Nat) (u : Value) (hu : xs[j]? = some u) : w.cell? ⟨g, o + j, none⟩ = some u := by
  obtain ⟨cur, c1, c2, c3⟩ := h.cur
  rw [cell_of_row w g (o + j) cur e (0, 0) c1]
  rw [← c3, List.getElem?_take] at hu
  split at hu
  · rw [List.getElem?_drop] at hu
    simpa using hu
  · cases hu
theorem OwnAt.cellA {w : World} {e : TypeId} {k g o n cap : Nat} {xs : List Value} (h : OwnAt w e k g o n cap xs) (j : Nat) (u : Value) (hu : xs[j]? = some u) : w.cell? ((⟨g, o, none⟩ : Addr).add j) = some u := by
  rw [add_at]; exact h.cell j u hu
theorem Own.same {w w' : World} {e : TypeId} {k n : Nat} {v : Value} {xs : List Value} (h : Own w e k v n xs) (hb : ∀ g, v.ownBlock = some g → w'.heap[g]? = w.heap[g]?) : Own w' e k v n xs := by
  rcases h with h | ⟨g, o, cap, rfl, h⟩
  · exact .inl h
  · exact .inr ⟨g, o, cap, rfl, h.same (hb g rfl)⟩
theorem Own.lt {w : World} {e : TypeId} {k n : Nat} {v : Value} {xs : List Value} (h : Own w e k v n xs) (g : Nat) (hg : v.ownBlock = some g) : g < w.heap.size := by
  rcases h with ⟨rfl, _⟩ | ⟨g', o, cap, rfl, h⟩
  · cases hg
  · cases hg; exact h.lt
theorem Own.next {w w' : World} {e : TypeId} {k n : Nat} {v : Value} {xs : List Value} (h : Own w e k v n xs) (hb : Below w.heap.size w w') : Own w' e k v n xs :=
  h.same (fun g hg => hb.block g (h.lt g hg))
theorem Own.kp {w w' : World} {S : List Nat} {e : TypeId} {k n : Nat} {v : Value} {xs : List Value} (h : Own w e k v n xs) (hb : Kp S w w') (hS : ∀ g, v.ownBlock = some g → g ∉ S) : Own w' e k v n xs :=
  h.same (fun g hg => hb.block g (h.lt g hg) (hS g hg))
theorem Own.len {w : World} {e : TypeId} {k n : Nat} {v : Value} {xs : List Value} (h : Own w e k v n xs) : xs.length = n * k := by
  rcases h with ⟨_, rfl, rfl⟩ | ⟨g', o, cap, rfl, h⟩
  · simp
  · exact h.len
theorem Own.form {w : World} {e : TypeId} {k n : Nat} {v : Value} {xs : List Value} (h : Own w e k v n xs) : ∃ a cap, v = .slice a n cap := by
  rcases h with ⟨rfl, rfl, _⟩ | ⟨g', o, cap, rfl, h⟩
  · exact ⟨_, _, rfl⟩
  · exact ⟨_, _, rfl⟩
theorem Own.pos {w : World} {e : TypeId} {k n : Nat} {v : Value} {xs : List Value} (h : Own w e k v n xs) (hn : 0 < n) : ∃ g o cap, v = .slice (some ⟨g, o, none⟩) n cap ∧ OwnAt w e k g o n cap xs := by
  rcases h with ⟨_, rfl, _⟩ | h
  · omega
  · exact h

theorem take_app {α : Type} (a b c : List α) (n : Nat) (h : n = (a ++ b).length) : (a ++ b ++ c).take n = a ++ b := by
  rw [h]; exact List.take_left

/-- Something is put behind. -/
theorem Own.append {w : World} {t ty e : TypeId} {i : TypeInfo} {z : Value} {size bytes : Nat} (ht : Try.prog.underlying t = some (.slice e)) (hi : Try.prog.info? e = some i) (hz : i.zero = some z)
    (hsize : i.size = size) (hby : i.bytes = bytes) (hzs : z.cells.size = size) (hsz : 0 < size) {v : Value} {n : Nat} {xs : List Value} (h : Own w e size v n xs)
    (a : Addr) (m c : Nat) (news : List Value) (hl : news.length = m * size) (hnews : ∀ j u, news[j]? = some u → w.cell? (a.add j) = some u) (h1 : ∀ u ∈ news, u.oneCell' = true)
    (hm : 0 < m) (h63 : n + m ≤ 1000000) (hb : bytes ≤ 1000) :
    ∃ g o cap w', (Builtin.append_ #[t, t] ty #[v, .slice (some a) m c]).run Try.prog w = .ok (.slice (some ⟨g, o, none⟩) (n + m) cap) w' ∧ OwnAt w' e size g o (n + m) cap (xs ++ news) ∧ (v.ownBlock = some g ∨ g = w.heap.size) ∧ Kp v.ownBlock.toList w w' := by
  subst hsize
  subst hby
  have hmul : (n + m) * i.bytes ≤ 1000000 * 1000 := Nat.mul_le_mul h63 hb
  have hmx : n + m ≤ maxLen := by simp only [maxLen]; omega
  have grown : ∀ (old : Nat), old < n + m → ∀ (row : List Nat), xs.length = n * i.size →
      OwnAt (w.drew.alloc (.cells (xs.toArray ++ news.toArray ++ Builtin.zeroCells z.cells (grownCap w (n + m) old e - (n + m))) e)) e i.size w.heap.size 0 (n + m) (grownCap w (n + m) old e) (xs ++ news) ∧
      Kp row w (w.drew.alloc (.cells (xs.toArray ++ news.toArray ++ Builtin.zeroCells z.cells (grownCap w (n + m) old e - (n + m))) e)) := by
    intro old ho row hx
    have hge := grownCap_ge w (n + m) old e
    have hcm : grownCap w (n + m) old e ≤ maxLen := grownCap_le_maxLen w (n + m) old e hmx
    have hlen : (xs ++ news).length = (n + m) * i.size := by rw [List.length_append, hx, hl, Nat.add_mul]
    refine ⟨⟨hlen, ⟨_, heap_new w.drew _, ?_, ?_⟩, hge, hcm⟩, Kp.al (Kp.drew (Kp.refl _ _)) _⟩
    · simp only [Array.size_append, List.size_toArray, size_zeroCells, hzs, hx, hl, ← Nat.add_mul, Nat.zero_add]
      apply Nat.le_of_eq
      congr 1
      omega
    · simp only [Array.toList_append, List.append_assoc, List.drop_zero]
      rw [← List.append_assoc, ← hlen]
      exact List.take_left
  rcases h with ⟨rfl, rfl, rfl⟩ | ⟨g, o, cap, rfl, h⟩
  · have hr := run_append_nil (P := Try.prog) w t ty e i z ht hi hz a m c news hl hnews hm (by omega) (by have hb := hmul; simp only [Nat.zero_add] at hb; omega)
    have hgr := grown 0 (by omega) [] (by simp)
    simp only [Nat.zero_add, List.nil_append, Array.empty_append] at hgr ⊢
    exact ⟨_, _, _, _, hr, hgr.1, .inr rfl, hgr.2⟩
  · by_cases hroom : n + m ≤ cap
    · obtain ⟨cur, c1, c2, c3⟩ := h.cur
      have hc0 : n * i.size + m * i.size ≤ cap * i.size := by rw [← Nat.add_mul]; exact Nat.mul_le_mul_right _ hroom
      have hf := run_firstCells_some (P := Try.prog) w i.size m a m c news hl hnews
      have hst := run_storeCells_at Try.prog g (o + n * i.size) e news 0 cur w c1 (by rw [hl]; omega) h1
      simp only [Nat.add_zero] at hst
      have hr : (Builtin.append_ #[t, t] ty #[.slice (some ⟨g, o, none⟩) n cap, .slice (some a) m c]).run Try.prog w = .ok (.slice (some ⟨g, o, none⟩) (n + m) cap) (w.setRow g (cur.toList.take (o + n * i.size) ++ news ++ cur.toList.drop (o + n * i.size + news.length)).toArray) := by
        simp [Builtin.append_, run_underlying ht, sizeOf, typeInfo, hi, Builtin.lenOf, hroom, hf, add_at, hst]
      refine ⟨g, o, cap, _, hr, ⟨?_, ⟨_, setRow_heap w g cur _ e _ c1, ?_, ?_⟩, hroom, h.cm⟩, .inl rfl, (Kp.refl _ _).row _ _ (.inl (by simp [Value.ownBlock]))⟩
      · rw [List.length_append, h.len, hl, Nat.add_mul]
      · simp only [List.size_toArray, List.length_append, List.length_take, List.length_drop, Array.length_toList, hl]
        omega
      · have l1 : (cur.toList.take (o + n * i.size)).length = o + n * i.size := by rw [List.length_take, Array.length_toList]; omega
        rw [List.toList_toArray, List.append_assoc, List.drop_append_of_le_length (by rw [l1]; omega), List.drop_take, show o + n * i.size - o = n * i.size from by omega, c3, ← List.append_assoc]
        exact take_app _ _ _ _ (by rw [List.length_append, h.len, hl, Nat.add_mul])
    · have hr := run_append_grow (P := Try.prog) w t ty e i z ht hi hz ⟨g, o, none⟩ n cap xs h.len h.cellA a m c news hl hnews (by omega) (by omega) (growslice_fits (by omega) (by omega))
      have hgr := grown cap (by omega) (Value.ownBlock (.slice (some ⟨g, o, none⟩) n cap)).toList h.len
      exact ⟨_, _, _, _, hr, hgr.1, .inr rfl, hgr.2⟩

/-- Nothing is put behind. -/
theorem Own.append_none {w : World} {t ty e : TypeId} {i : TypeInfo} (ht : Try.prog.underlying t = some (.slice e)) (hi : Try.prog.info? e = some i) {v : Value} {n size : Nat} {xs : List Value} (h : Own w e size v n xs) (b : Option Addr) (c : Nat) :
    (Builtin.append_ #[t, t] ty #[v, .slice b 0 c]).run Try.prog w = .ok v w := by
  have hf : ∀ s, (Builtin.firstCells s 0 (.slice b 0 c)).run Try.prog w = .ok #[] w := fun s => by
    cases b with
    | none => simp [Builtin.firstCells]
    | some a => simpa using run_firstCells_some (P := Try.prog) w s 0 a 0 c [] (by simp) (by simp)
  rcases h with ⟨rfl, rfl, rfl⟩ | ⟨g, o, cap, rfl, h⟩
  · simp [Builtin.append_, run_underlying ht, sizeOf, typeInfo, hi, Builtin.lenOf, hf]
  · simp [Builtin.append_, run_underlying ht, sizeOf, typeInfo, hi, Builtin.lenOf, hf, h.nc, storeCells]

/-- All but the first. -/
theorem OwnAt.tail {w : World} {t e : TypeId} {i : TypeInfo} (ht : Try.prog.underlying t = some (.slice (Try.prog.elem t))) (he : Try.prog.elem t = e) (hi : Try.prog.info? e = some i) {size g o n cap : Nat} {xs : List Value} (hs : i.size = size) (h : OwnAt w e size g o n cap xs) (hn : 0 < n) :
    ∃ o', (∀ W, (Instr.sliceAt t (.slice (some ⟨g, o, none⟩) n cap) (some (.int .i64 1)) none none).run Try.prog W = .ok (.slice (some ⟨g, o', none⟩) (n - 1) (cap - 1)) W) ∧ OwnAt w e size g o' (n - 1) (cap - 1) (xs.drop size) ∧ (1 < n → o' = o + size) := by
  subst he
  subst hs
  obtain ⟨cur, c1, c2, c3⟩ := h.cur
  have hnc := h.nc
  have hcm := h.cm
  obtain ⟨d, rfl⟩ : ∃ d, cap = d + 1 := ⟨cap - 1, by omega⟩
  obtain ⟨m, rfl⟩ : ∃ m, n = m + 1 := ⟨n - 1, by omega⟩
  have hm1 : (m + 1) * i.size = m * i.size + i.size := Nat.succ_mul _ _
  have hd1 : (d + 1) * i.size = d * i.size + i.size := Nat.succ_mul _ _
  have hmd : m * i.size ≤ d * i.size := Nat.mul_le_mul_right _ (by omega)
  have hrun : ∀ W, (Instr.sliceAt t (.slice (some ⟨g, o, none⟩) (m + 1) (d + 1)) (some (.int .i64 1)) none none).run Try.prog W = .ok (.slice (some ⟨g, if d = 0 then o else o + i.size, none⟩) m d) W := fun W => by
    rw [run_sliceAt_slice W t _ _ _ _ ht, run_slice_l W t _ _ _ ht .i64 1 (by decide) (by omega)]
    have hsz : (sizeOf (Try.prog.elem t)).run Try.prog W = .ok i.size W := by simp [sizeOf, typeInfo, hi]
    rw [hsz]
    simp only [Result.andThen, sliced]
    by_cases h0 : d = 0
    · subst h0; simp
    · have : ¬ d + 1 = Int.toNat 1 := by simp; omega
      simp [h0, add_at]
  refine ⟨_, hrun, ⟨by rw [List.length_drop, h.len, hm1]; simp, ⟨cur, c1, ?_, ?_⟩, by omega, by omega⟩, fun h1 => if_neg (by omega)⟩
  · show (if d = 0 then o else o + i.size) + d * i.size ≤ cur.size
    split
    · rename_i h0; subst h0; omega
    · omega
  · show (cur.toList.drop (if d = 0 then o else o + i.size)).take (m * i.size) = xs.drop i.size
    rw [← c3, List.drop_take, List.drop_drop]
    split
    · rename_i h0
      obtain rfl : m = 0 := by omega
      simp
    · rw [hm1]; congr 1; omega
/-- A row that was made, in a block of its own. -/
theorem OwnAt.made {w : World} {e : TypeId} {k g : Nat} (xs : List Value) (n : Nat) (hl : xs.length = n * k) (h1 : n ≤ maxLen) (hb : w.heap[g]? = some (.cells xs.toArray e (0, 0))) : OwnAt w e k g 0 n n xs :=
  ⟨hl, ⟨_, hb, by simp [hl], by rw [List.drop_zero, ← hl]; exact List.take_length⟩, Nat.le_refl _, h1⟩
/-- An append whose run is known, at its operation. -/
theorem wp_app_by {w w' : World} {o : Oper} {a : Act} {K : Act → World → Prop} {Q : Exit → Act → World → Prop} (s x : Operand) (t : TypeId)
    (ho : o.op = .call { callee := .builtin .append, args := #[s, x], argTypes := #[t, t] }) (vs vx : Value) (hs : a.eval s = vs) (hx : a.eval x = vx)
    (v' : Value) (hr : (Builtin.append_ #[t, t] o.type #[vs, vx]).run Try.prog w = .ok v' w') (h : K (a.put o.dst v') w') : o.wp Try.prog a w K Q := by
  unfold Oper.wp execOp
  simp only [ho, resolve, invoke, builtin, Sem.run_bind, Sem.run_pure, Result.andThen_ok, List.map_toArray, List.map_cons, List.map_nil, hs, hx, hr]
  exact h
theorem wpList_app_by {w w' : World} {ops : Array Oper} {rest : List Oper} {o : Oper} {a : Act} {Q : Exit → Act → World → Prop} (hgd : o.guard = none) (s x : Operand) (t : TypeId)
    (ho : o.op = .call { callee := .builtin .append, args := #[s, x], argTypes := #[t, t] }) (vs vx : Value) (hs : a.eval s = vs) (hx : a.eval x = vx)
    (v' : Value) (hr : (Builtin.append_ #[t, t] o.type #[vs, vx]).run Try.prog w = .ok v' w') (h : wpList Try.prog ops Q rest (a.put o.dst v') w') : wpList Try.prog ops Q (o :: rest) a w :=
  wpList_plain hgd fun _ hK => wp_app_by s x t ho vs vx hs hx v' hr (hK _ _ h)
#print axioms Own.append
#print axioms OwnAt.tail
end Go.Proofs.Ytjdfacjfpdfafaa
