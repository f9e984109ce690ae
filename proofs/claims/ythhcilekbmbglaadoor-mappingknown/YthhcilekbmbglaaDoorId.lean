/-
  Rows of Maps of one's own; checks of the example's dictionary.
-/
import Derived.Test.YthhcilekbmbglaaDoorIc
import Derived.Deep.AppendLies
import Derived.Test.YthhcilekbmbglaaDoorGl
namespace Go.Proofs.YthhcilekbmbglaaDoor
open Go.RowKit

/-- A Map's cells. -/
abbrev Mq.A (x : Mq) : Array Value := #[.int .u16 x.i, .int .u8 x.s, .int .i64 (x.b : Int)]
def Mq.L (x : Mq) : List Value := x.A.toList
/-- The cells of a row of them. -/
def flw (l : List Mq) : List Value := l.flatMap Mq.L
theorem Mq.L_len (x : Mq) : x.L.length = 3 := rfl
theorem flw_len (l : List Mq) : (flw l).length = l.length * 3 := by
  unfold flw
  induction l with
  | nil => rfl
  | cons x l ih => rw [List.flatMap_cons, List.length_append, ih, Mq.L_len, List.length_cons]; omega
theorem flw_app (l m : List Mq) : flw (l ++ m) = flw l ++ flw m := by unfold flw; rw [List.flatMap_append]
theorem flw_one (x : Mq) : flw [x] = x.L := by unfold flw; simp
theorem flw_at (l : List Mq) (i : Nat) (x : Mq) (h : l[i]? = some x) : ((flw l).drop (i * 3)).take 3 = x.L := by
  obtain ⟨hi, he⟩ := List.getElem?_eq_some_iff.1 h
  have e : l = l.take i ++ (x :: l.drop (i + 1)) := by rw [← he, List.getElem_cons_drop, List.take_append_drop]
  have e2 : flw l = flw (l.take i) ++ (x.L ++ flw (l.drop (i + 1))) := by
    conv => lhs; rw [e]
    rw [flw_app]
    rfl
  have hl : (flw (l.take i)).length = i * 3 := by rw [flw_len, List.length_take]; congr 1; omega
  rw [e2, List.drop_append_of_le_length (by omega), List.drop_of_length_le (by omega), List.nil_append, List.take_append_of_le_length (by rw [Mq.L_len]; omega), List.take_of_length_le (by rw [Mq.L_len]; omega)]
/-- What waits, in memory of its own. -/
abbrev IsW (w : World) (base : Nat) (v : Value) (l : List Mq) : Prop := w.ownsRow base 34 3 v l.length (flw l)
theorem IsW.form {w : World} {base : Nat} {v : Value} {l : List Mq} (h : IsW w base v l) : (v = .slice none 0 0 ∧ l = []) ∨ ∃ g cap cur, v = .slice (some ⟨g, 0, none⟩) l.length cap ∧ base ≤ g ∧ w.heap[g]? = some (.cells cur 34 (0, 0)) ∧ l.length ≤ cap ∧ cap ≤ maxLen ∧ cur.size = cap * 3 ∧ cur.toList.take (l.length * 3) = flw l := by
  rcases h.2 with ⟨h1, h2⟩ | ⟨g, cap, cur, hv, hg, hh, hn, hm, hs, ht⟩
  · exact .inl ⟨h1, List.eq_nil_of_length_eq_zero h2⟩
  · exact .inr ⟨g, cap, cur, hv, hg, hh, hn, hm, hs, ht⟩

theorem infoMp : (Tryd.prog.info? 34).map (fun i => (i.zero, i.size, i.bytes)) = some (some (.agg #[.int .u16 0, .int .u8 0, .int .i64 0]), 3, 16) := by kernel_rfl
theorem isW_nil (w : World) (b : Nat) : IsW w b (.slice none 0 0) [] := ⟨rfl, .inl ⟨rfl, rfl⟩⟩
theorem IsW.same {w w' : World} {base : Nat} {v : Value} {l : List Mq} (h : IsW w base v l) (hk : ∀ k, v.ownBlock = some k → w'.heap[k]? = w.heap[k]?) : IsW w' base v l := by
  refine ⟨h.1, ?_⟩
  rcases h.2 with ⟨h1, h2⟩ | ⟨g, cap, cur, hv, hb, hh, r⟩
  · exact .inl ⟨h1, h2⟩
  · exact .inr ⟨g, cap, cur, hv, hb, (hk g (by rw [hv]; rfl)).trans hh, r⟩
theorem IsW.next {w w' : World} {base : Nat} {v : Value} {l : List Mq} (h : IsW w base v l) (hb : Below w.heap.size w w') : IsW w' base v l := h.same fun k hk => hb.block k (h.lt k hk).2
/-- The first ones of a row of one's own. -/
theorem IsW.ms {w : World} {base g n cap : Nat} {l : List Mq} (h : IsW w base (.slice (some ⟨g, 0, none⟩) n cap) l) (k : Nat) : MsAt w g (l.take k) := by
  rcases h.2 with ⟨h1, _⟩ | ⟨g', cap', cur, hv, hg, hh, hn, hm, hs, ht⟩
  · cases h1
  · cases hv
    intro j x hx
    rw [List.getElem?_take] at hx
    split at hx
    · have hj := (List.getElem?_eq_some_iff.1 hx).1
      have e := flw_at l j x hx
      have q : ∀ c, c < 3 → cur[j * 3 + c]? = x.L[c]? := fun c hc => by
        rw [← e, List.getElem?_take, if_pos hc, List.getElem?_drop, ← ht, List.getElem?_take, if_pos (by omega)]
        simp
      have a0 := q 0 (by decide)
      have a1 := q 1 (by decide)
      have a2 := q 2 (by decide)
      refine ⟨?_, ?_, ?_⟩
      · rw [cell_of_row w g _ _ _ _ hh]; exact a0
      · rw [cell_of_row w g _ _ _ _ hh]; exact a1
      · rw [cell_of_row w g _ _ _ _ hh]; exact a2
    · cases hx
/-- One Map put behind those of a row of its own. -/
theorem wpList_append_map {ops : Array Oper} {rest : List Oper} {o : Oper} {a : Act} {w : World} {Q : Exit → Act → World → Prop} (hgd : o.guard = none) (s x : Operand)
    (ho : o.op = .call { callee := .builtin .append, args := #[s, x], argTypes := #[23, 23] }) (base : Nat) (v : Value) (l : List Mq) (hs : a.eval s = v) (hown : IsW w base v l)
    (ad : Addr) (y : Mq) (hx : a.eval x = .slice (some ad) 1 1) (hnews : ∀ j u, y.L[j]? = some u → w.cell? (ad.add j) = some u) (h63 : l.length ≤ 1000000) (hbase : base ≤ w.heap.size) (Hn : Nat) (hH : w.heap.size = Hn)
    (h : ∀ g cap w', IsW w' base (.slice (some ⟨g, 0, none⟩) (l.length + 1) cap) (l ++ [y]) → w.grownBy w' v.ownBlock → (v.ownBlock = some g ∨ g = Hn) → g < w'.heap.size → wpList Tryd.prog ops Q rest (a.put o.dst (.slice (some ⟨g, 0, none⟩) (l.length + 1) cap)) w') : wpList Tryd.prog ops Q (o :: rest) a w := by
  obtain ⟨i0, hi, hz0, hz1, hz2⟩ := info_parts infoMp
  refine wpList_append_lies (P := Tryd.prog) w hgd s x 23 ho base 34 i0 _ 3 16 Tryd.underlying23 hi hz0 hz1 hz2 rfl (by decide) v l.length _ hs hown ad 1 1 y.L hx (Mq.L_len y) hnews (fun u hu => by simp [Mq.L] at hu; rcases hu with rfl | rfl | rfl <;> rfl) (by decide) (by unfold maxLen; omega) (by omega) hbase Hn hH ?_
  intro g cap w' h1 h2 h3 h4
  refine h g cap w' ?_ h2 h3 h4
  show w'.ownsRow base 34 3 _ (l ++ [y]).length (flw (l ++ [y]))
  rw [flw_app, flw_one, List.length_append]
  exact h1
/-- The codes of the Maps that are asked. -/
def cf12 (out : Bool) (x : Mq) : Int := if x.i = 7 then (if out then 100925505 else 0) else if x.i = 1 then 100794368 else if x.s = 9 then 101253137 else if x.b = 7 then 100925505 else 0
def al12 : List Mq := [⟨24576, 1, 7⟩, ⟨7, 0, 32⟩, ⟨24576, 1, 8⟩, ⟨24576, 9, 8⟩, ⟨1, 1, 8⟩, ⟨24576, 2, 1⟩]
theorem mc12 {w : World} {p m : Nat} {cg : Int} {z1 z2 z3 : List Int} (h : T12 w p m cg z1 z2 z3) (out : Bool) (x : Mq) (hx : x ∈ al12) :
    Calls Tryd.prog 19 #[mpV x.i x.s (x.b : Int), .pointer (some ⟨p, 0, none⟩), .bool out] w fun e w' => e = .returned (.int .u32 (cf12 out x)) ∧ Below w.heap.size w w' := by
  obtain ⟨q1, q2, q3, h⟩ := h
  simp only [al12, List.mem_cons, List.not_mem_nil, or_false] at hx
  rcases hx with rfl | rfl | rfl | rfl | rfl | rfl
  · exact mcheck_bad out p m cg _ 24576 1 7 _ _ _ _ _ _ _ _ _ _ _ _ _ _ _ _ _ [3] [] [] w h.h h.mm rfl h.e1.d.1 h.e1.l.1 h.e1.h.1 (by decide) (by decide) (by decide) (by decide) (by decide) (by decide +kernel)
  · have := mcheck_gap out (.pointer (some ⟨p, 0, none⟩)) 7 0 32 w (by decide) (by decide) (by decide +kernel)
    exact this
  · exact mcheck_mp (mp12 h out _ (by simp [ms12])) h.h h.mm
  · exact mcheck_miss out (.pointer (some ⟨p, 0, none⟩)) 101253137 (by decide) 24576 9 8 w (by decide) (by decide) (by decide +kernel) fun W hb => findE_miss p m cg _ 24576 9 W (blk11 hb h.h) (h.mm.next hb) rfl 101253137 (by simp [missC, anyI])
  · exact mcheck_miss out (.pointer (some ⟨p, 0, none⟩)) 100794368 (by decide) 1 1 8 w (by decide) (by decide) (by decide +kernel) fun W hb => findE_miss p m cg _ 1 1 W (blk11 hb h.h) (h.mm.next hb) rfl 100794368 (by simp [missC, anyI])
  · exact mcheck_mp (mp12 h out _ (by simp [ms12])) h.h h.mm
theorem chk12 {w : World} {p m : Nat} {cg : Int} {z1 z2 z3 : List Int} (h : T12 w p m cg z1 z2 z3) (out : Bool) (gm N cap : Nat) (ms : List Mq) (hN : ms.length = N) (h64 : N ≤ 64) (hM : MsAt w gm ms) (hal : ∀ x ∈ ms, x ∈ al12) (code : Int) (hc : chkL (cf12 out) ms 0 = code) :
    Calls Tryd.prog 8 #[.pointer (some ⟨p, 0, none⟩), .slice (some ⟨gm, 0, none⟩) N cap, .bool out] w fun e w' => e = .returned (.int .u32 code) ∧ Below w.heap.size w w' := by
  rw [← hc]
  refine check_gen out _ (cf12 out) gm N cap ms w hN h64 hM (fun x hx => ?_) (fun W hb x hx => mc12 (h.next hb) out x (hal x hx))
  have := hal x hx
  simp only [al12, List.mem_cons, List.not_mem_nil, or_false] at this
  rcases this with rfl | rfl | rfl | rfl | rfl | rfl <;> decide
/-- Without a dictionary. -/
def cfN (x : Mq) : Int := if x.i = 7 then 0 else 134217728
theorem chkN12 (gm N cap : Nat) (ms : List Mq) (w : World) (hN : ms.length = N) (h64 : N ≤ 64) (hM : MsAt w gm ms) (hal : ∀ x ∈ ms, x = ⟨7, 0, 32⟩ ∨ x ∈ ms12) (code : Int) (hc : chkL cfN ms 0 = code) :
    Calls Tryd.prog 8 #[.pointer none, .slice (some ⟨gm, 0, none⟩) N cap, .bool false] w fun e w' => e = .returned (.int .u32 code) ∧ Below w.heap.size w w' := by
  rw [← hc]
  refine check_gen false _ cfN gm N cap ms w hN h64 hM (fun x hx => ?_) (fun W hb x hx => ?_)
  · rcases hal x hx with rfl | h
    · decide
    · simp only [ms12, List.mem_cons, List.not_mem_nil, or_false] at h
      rcases h with rfl | rfl | rfl <;> decide
  · rcases hal x hx with rfl | h
    · exact mcheck_gap false (.pointer none) 7 0 32 W (by decide) (by decide) (by decide +kernel)
    · simp only [ms12, List.mem_cons, List.not_mem_nil, or_false] at h
      rcases h with rfl | rfl | rfl
      · exact mcheck_miss false (.pointer none) 134217728 (by decide) 24576 1 8 W (by decide) (by decide) (by decide +kernel) fun W2 _ => findE_nil 24576 1 W2
      · exact mcheck_miss false (.pointer none) 134217728 (by decide) 24576 2 1 W (by decide) (by decide) (by decide +kernel) fun W2 _ => findE_nil 24576 2 W2
      · exact mcheck_miss false (.pointer none) 134217728 (by decide) 24576 3 16 W (by decide) (by decide) (by decide +kernel) fun W2 _ => findE_nil 24576 3 W2
#print axioms chk12
#print axioms chkN12
end Go.Proofs.YthhcilekbmbglaaDoor
