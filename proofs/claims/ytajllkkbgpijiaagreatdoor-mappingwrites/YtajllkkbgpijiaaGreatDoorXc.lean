/-
  Rows of the document's items; where an entry stands.
  The document's Find.
-/
import Derived.Test.YtajllkkbgpijiaaGreatDoorXb
import Derived.WalkSmall
namespace Go.Proofs.YtajllkkbgpijiaaGreatDoor
open Go.RowKit

/-- A value for a place, in a block of its own. -/
structure Xi where
  i : Int
  s : Int
  nm : ByteArray
  t : Int
  rt : Int
  d : Option Addr
  ld : Nat
  cd : Nat
  l : Option Addr
  ll : Nat
  cl : Nat
  h : Option Addr
  lh : Nat
  ch : Nat
  tg : Int
  gr : Int
  v : Option Addr
  lv : Nat
  cv : Nat
/-- Its cells. -/
abbrev Xi.A (x : Xi) : Array Value := itC x.i x.s x.nm x.t x.rt x.d x.ld x.cd x.l x.ll x.cl x.h x.lh x.ch x.tg x.gr x.v x.lv x.cv
def Xi.L (x : Xi) : List Value := x.A.toList
/-- The cells of a row of them. -/
def flx (l : List Xi) : List Value := l.flatMap Xi.L
theorem Xi.L_len (x : Xi) : x.L.length = 11 := rfl
theorem flx_len (l : List Xi) : (flx l).length = l.length * 11 := by
  unfold flx
  induction l with
  | nil => rfl
  | cons x l ih => rw [List.flatMap_cons, List.length_append, ih, Xi.L_len, List.length_cons]; omega
theorem flx_app (l m : List Xi) : flx (l ++ m) = flx l ++ flx m := by unfold flx; rw [List.flatMap_append]
theorem flx_one (x : Xi) : flx [x] = x.L := by unfold flx; simp
theorem flx_at (l : List Xi) (i : Nat) (x : Xi) (h : l[i]? = some x) : ((flx l).drop (i * 11)).take 11 = x.L := by
  obtain ⟨hi, he⟩ := List.getElem?_eq_some_iff.1 h
  have e : l = l.take i ++ (x :: l.drop (i + 1)) := by rw [← he, List.getElem_cons_drop, List.take_append_drop]
  have e2 : flx l = flx (l.take i) ++ (x.L ++ flx (l.drop (i + 1))) := by
    conv => lhs; rw [e]
    rw [flx_app]
    rfl
  have hl : (flx (l.take i)).length = i * 11 := by rw [flx_len, List.length_take]; congr 1; omega
  rw [e2, List.drop_append_of_le_length (by omega), List.drop_of_length_le (by omega), List.nil_append, List.take_append_of_le_length (by rw [Xi.L_len]; omega), List.take_of_length_le (by rw [Xi.L_len]; omega)]
theorem sizeX : (Tryz.prog.info? 86).map (·.size) = some 11 := by kernel_rfl
theorem aggX : ∀ w, (isAgg 86).run Tryz.prog w = .ok true w := fun w => by simp [isAgg, run_underlying Tryz.underlying86]
/-- What waits, in memory of its own. -/
abbrev IsX (w : World) (base : Nat) (v : Value) (l : List Xi) : Prop := w.ownsRow base 86 11 v l.length (flx l)
theorem IsX.form {w : World} {base : Nat} {v : Value} {l : List Xi} (h : IsX w base v l) : (v = .slice none 0 0 ∧ l = []) ∨ ∃ g cap cur, v = .slice (some ⟨g, 0, none⟩) l.length cap ∧ base ≤ g ∧ w.heap[g]? = some (.cells cur 86 (0, 0)) ∧ l.length ≤ cap ∧ cap ≤ maxLen ∧ cur.size = cap * 11 ∧ cur.toList.take (l.length * 11) = flx l := by
  rcases h.2 with ⟨h1, h2⟩ | ⟨g, cap, cur, hv, hg, hh, hn, hm, hs, ht⟩
  · exact .inl ⟨h1, List.eq_nil_of_length_eq_zero h2⟩
  · exact .inr ⟨g, cap, cur, hv, hg, hh, hn, hm, hs, ht⟩
/-- One of them out of memory. -/
theorem IsX.load {w : World} {base g cap : Nat} {l : List Xi} (h : IsX w base (.slice (some ⟨g, 0, none⟩) l.length cap) l) (i : Nat) (x : Xi) (hx : l[i]? = some x) : (loadVar 86 ⟨g, i * 11, none⟩).run Tryz.prog w = .ok (.agg x.A) w := by
  have hi : i < l.length := (List.getElem?_eq_some_iff.1 hx).1
  rcases h.form with ⟨h1, _⟩ | ⟨g', cap', cur, hv, _, hh, hn, _, hs, ht⟩
  · cases h1
  · cases hv
    have := load_part 86 11 sizeX aggX w g (i * 11) cur.toList 86 hh (by simp [hs]; omega)
    rw [this]
    have e : (cur.toList.drop (i * 11)).take 11 = x.L := by
      rw [← flx_at l i x hx, ← ht, List.drop_take, List.take_take, Nat.min_eq_left (by omega)]
    rw [e]
    rfl

theorem infoX : (Tryz.prog.info? 86).map (fun i => (i.zero, i.size, i.bytes)) = some (some (.agg (itC 0 0 ⟨#[]⟩ 0 0 none 0 0 none 0 0 none 0 0 0 0 none 0 0)), 11, 136) := by kernel_rfl
theorem isX_nil (w : World) (b : Nat) : IsX w b (.slice none 0 0) [] := ⟨rfl, .inl ⟨rfl, rfl⟩⟩
theorem IsX.ne {w : World} {base b : Nat} {v : Value} {us : List Xi} {C : Array Value} {T : TypeId} {f : Nat × Nat} (h : IsX w base v us) (hb : w.heap[b]? = some (.cells C T f)) (hT : T ≠ 86) : some b ≠ v.ownBlock := by
  rcases h.2 with ⟨h1, _⟩ | ⟨g, cap, cur, hv, _, hh, _⟩
  · rw [h1]; intro e; cases e
  · rw [hv]
    intro e
    simp only [Value.ownBlock] at e
    cases e
    rw [hh] at hb
    cases hb
    exact hT rfl
theorem IsX.same {w w' : World} {base : Nat} {v : Value} {l : List Xi} (h : IsX w base v l) (hk : ∀ k, v.ownBlock = some k → w'.heap[k]? = w.heap[k]?) : IsX w' base v l := by
  refine ⟨h.1, ?_⟩
  rcases h.2 with ⟨h1, h2⟩ | ⟨g, cap, cur, hv, hb, hh, r⟩
  · exact .inl ⟨h1, h2⟩
  · exact .inr ⟨g, cap, cur, hv, hb, (hk g (by rw [hv]; rfl)).trans hh, r⟩
theorem IsX.next {w w' : World} {base : Nat} {v : Value} {l : List Xi} (h : IsX w base v l) (hb : Below w.heap.size w w') : IsX w' base v l := h.same fun k hk => hb.block k (h.lt k hk).2
/-- One value put behind those of a row of its own. -/
theorem wpList_append_item {ops : Array Oper} {rest : List Oper} {o : Oper} {a : Act} {w : World} {Q : Exit → Act → World → Prop} (hgd : o.guard = none) (s x : Operand)
    (ho : o.op = .call { callee := .builtin .append, args := #[s, x], argTypes := #[82, 82] }) (base : Nat) (v : Value) (l : List Xi) (hs : a.eval s = v) (hown : IsX w base v l)
    (ad : Addr) (y : Xi) (hx : a.eval x = .slice (some ad) 1 1) (hnews : ∀ j u, y.L[j]? = some u → w.cell? (ad.add j) = some u) (h63 : l.length ≤ 1000000) (hbase : base ≤ w.heap.size)
    (h : ∀ v' w', IsX w' base v' (l ++ [y]) → w.grownBy w' v.ownBlock → wpList Tryz.prog ops Q rest (a.put o.dst v') w') : wpList Tryz.prog ops Q (o :: rest) a w := by
  obtain ⟨i0, hi, hz0, hz1, hz2⟩ := info_parts infoX
  refine wpList_append_own (P := Tryz.prog) w hgd s x 82 ho base 86 i0 _ 11 136 Tryz.underlying82 hi hz0 hz1 hz2 rfl (by decide) v l.length _ hs hown ad 1 1 y.L hx (Xi.L_len y) hnews (fun u hu => by simp [Xi.L] at hu; rcases hu with rfl | rfl | rfl | rfl | rfl | rfl | rfl | rfl | rfl | rfl | rfl <;> rfl) (by unfold maxLen; omega) (by omega) hbase ?_
  intro v' w' h1 h2 _
  refine h v' w' ?_ h2
  show w'.ownsRow base 86 11 v' (l ++ [y]).length (flx (l ++ [y]))
  rw [flx_app, flx_one, List.length_append]
  exact h1


set_option maxRecDepth 100000 in
/-- The entry of one of them. -/
theorem IsX.entry {w : World} {base g cap : Nat} {l : List Xi} (h : IsX w base (.slice (some ⟨g, 0, none⟩) l.length cap) l) (i : Nat) (x : Xi) (hx : l[i]? = some x) : (loadVar 52 ⟨g, i * 11, none⟩).run Tryz.prog w = .ok (.agg (enC x.i x.s x.nm x.t x.rt x.d x.ld x.cd x.l x.ll x.cl x.h x.lh x.ch x.tg x.gr)) w := by
  have hi : i < l.length := (List.getElem?_eq_some_iff.1 hx).1
  rcases h.form with ⟨h1, _⟩ | ⟨g', cap', cur, hv, _, hh, hn, _, hs, ht⟩
  · cases h1
  · cases hv
    have := load_part 52 10 sizeE aggE w g (i * 11) cur.toList 86 hh (by simp [hs]; omega)
    rw [this]
    have e11 : (cur.toList.drop (i * 11)).take 11 = x.L := by
      rw [← flx_at l i x hx, ← ht, List.drop_take, List.take_take, Nat.min_eq_left (by omega)]
    have e : (cur.toList.drop (i * 11)).take 10 = x.L.take 10 := by
      rw [← e11, List.take_take]
      rfl
    rw [e]
    rfl
theorem IsX.form2 {w : World} {base : Nat} {v : Value} {l : List Xi} (h : IsX w base v l) : ∃ a cap, v = .slice a l.length cap ∧ (0 < l.length → ∃ g, a = some ⟨g, 0, none⟩) := by
  rcases h.form with ⟨h1, h2⟩ | ⟨g, cap, cur, hv, _⟩
  · subst h2
    exact ⟨none, 0, h1, fun h => absurd h (by simp)⟩
  · exact ⟨_, cap, hv, fun _ => ⟨g, rfl⟩⟩
/-- Where an entry stands, or why there is none; the first ones are looked at already. -/
def atX (i s : Int) : List Xi → Nat → Int → Int × Int
  | [], _, c => (-1, c)
  | x :: l, k, c => if (x.i == i && x.s == s) = true then ((k : Int), 0) else atX i s l (k + 1) (if (x.i == i) = true then 101253137 else c)

set_option linter.unusedSimpArgs false in
set_option maxHeartbeats 4000000 in
set_option maxRecDepth 100000 in
theorem at_any (q : Nat) (v : Value) (nn : Int) (xs : List Xi) (base : Nat) (i s : Int) (w : World) (hq : w.heap[q]? = some (.cells #[v, .int .i64 nn] 84 (0, 0))) (hx : IsX w base v xs) (hl : xs.length ≤ 1000000) :
    Calls Tryz.prog 52 #[.pointer (some ⟨q, 0, none⟩), plV i s] w fun e w' => e = .returned (.tuple #[.int .i64 (atX i s xs 0 100794368).1, .int .u32 (atX i s xs 0 100794368).2]) ∧ Below w.heap.size w w' := by
  obtain ⟨vA, vC, rfl, hva⟩ := hx.form2
  obtain ⟨N, HN⟩ : ∃ N, Hid (N = xs.length) := ⟨_, rfl⟩
  obtain ⟨R1, HR1⟩ : ∃ R, Hid (R = atX i s xs 0 100794368) := ⟨_, rfl⟩
  have HX : Hid (IsX w base (.slice vA xs.length vC) xs) := hx
  have HQ : Hid (w.heap[q]? = some (.cells #[.slice vA xs.length vC, .int .i64 nn] 84 (0, 0))) := hq
  have VA : Hid (0 < N → ∃ g, vA = some ⟨g, 0, none⟩) := by show _ → _; rw [HN.out]; exact hva
  rw [← HN.out] at HQ hl
  rw [← HR1.out]
  have CQ : Hid (∀ W, Below w.heap.size w W → W.cell? ⟨q, 0, none⟩ = some (.slice vA N vC)) := fun W hW => by rw [cell_of_row _ _ 0 _ _ _ (blk11 hW HQ.out)]; rfl
  clear hq hx hva
  go_enter Tryz.func52, Tryz.ntmps52
  go_wp2_with fail
  go_loopw [6, 7] (fun cv iv wr => ∃ (k : Nat) (c : Int), k ≤ N ∧ iv = .int .i64 (k : Int) ∧ cv = .int .u32 c ∧ Hid (R1 = atX i s (xs.drop k) k c ∧ Below w.heap.size w wr ∧ wr.heap[w.heap.size]? = some (.cells #[.int .u16 i, .int .u8 s] 43 (0, 0)))) (fun _ iv _ => N - (intOf iv).toNat)
  case atStart => exact ⟨0, _, Nat.zero_le _, rfl, rfl, HR1.out, (by repeat (first | exact Below.refl _ _ | apply Below.drew | apply Below.al)), at11 _ _ _ rfl⟩
  case round =>
    obtain ⟨k, c, hk, rfl, rfl, HR⟩ := hrel
    have RR : Hid (R1 = atX i s (xs.drop k) k c) := HR.out.1
    have BR : Hid (Below w.heap.size w wr) := HR.out.2.1
    have PR : Hid (wr.heap[w.heap.size]? = some (.cells #[.int .u16 i, .int .u8 s] 43 (0, 0))) := HR.out.2.2
    have cq := CQ.out _ BR.out
    have lw := lt_of_heap PR.out
    clear HR
    by_cases hkN : k < N
    · have gk : (k : Int) < (N : Int) := by omega
      have gk0 : (0 : Int) ≤ (k : Int) := by omega
      obtain ⟨g, rfl⟩ := VA.out (by omega)
      obtain ⟨x, hx⟩ : ∃ x, xs[k]? = some x := ⟨_, List.getElem?_eq_getElem (by have := HN.out; omega)⟩
      have LD := (HX.out.next BR.out).entry k x hx
      have R2 : Hid (R1 = if (x.i == i && x.s == s) = true then ((k : Int), 0) else atX i s (xs.drop (k + 1)) (k + 1) (if (x.i == i) = true then 101253137 else c)) := by
        show _ = _
        obtain ⟨hk9, he⟩ := List.getElem?_eq_some_iff.1 hx
        rw [RR.out, List.drop_eq_getElem_cons hk9, he]
        rfl
      obtain ⟨xi, xs9, xnm, xt, xrt, xd, xld, xcd, xl, xll, xcl, xh, xlh, xch, xtg, xgr, xv, xlv, xcv⟩ := x
      dsimp only at LD R2
      have wk : IntKind.i64.wrap ((k : Int) + 1) = ((k + 1 : Nat) : Int) := by rw [IntKind.wrap_i64]; omega
      have p0 : (wr.alloc (.cells (enC xi xs9 xnm xt xrt xd xld xcd xl xll xcl xh xlh xch xtg xgr) 52)).cell? ⟨w.heap.size, 0, none⟩ = some (.int .u16 i) := by rw [cell_of_row _ _ 0 _ _ _ (ext11 PR.out)]; rfl
      have p1 : (wr.alloc (.cells (enC xi xs9 xnm xt xrt xd xld xcd xl xll xcl xh xlh xch xtg xgr) 52)).cell? ⟨w.heap.size, 1, none⟩ = some (.int .u8 s) := by rw [cell_of_row _ _ 1 _ _ _ (ext11 PR.out)]; rfl
      have F : Hid (Below w.heap.size w (wr.alloc (.cells (enC xi xs9 xnm xt xrt xd xld xcd xl xll xcl xh xlh xch xtg xgr) 52)) ∧ (wr.alloc (.cells (enC xi xs9 xnm xt xrt xd xld xcd xl xll xcl xh xlh xch xtg xgr) 52)).heap[w.heap.size]? = some (.cells #[.int .u16 i, .int .u8 s] 43 (0, 0))) := ⟨Below.al BR.out _, ext11 PR.out⟩
      clear hx RR
      by_cases h1 : xi = i
      · subst h1
        by_cases h2 : xs9 = s
        · subst h2
          have R3 : Hid (R1 = ((k : Int), 0)) := by show _ = _; rw [R2.out]; simp
          clear R2
          go_wp2_with (refine wpList_load_by rfl 52 (.tmp 24) rfl _ _ rfl LD ?_)
          go_ret2
          exact ⟨by rw [R3.out]; rfl, F.out.1⟩
        · have h2b : (xs9 == s) = false := by simpa using h2
          have R3 : Hid (R1 = atX xi s (xs.drop (k + 1)) (k + 1) 101253137) := by show _ = _; rw [R2.out]; simp [h2]
          clear R2
          go_wp2_with (refine wpList_load_by rfl 52 (.tmp 24) rfl _ _ rfl LD ?_)
          exact ⟨⟨k + 1, 101253137, by omega, by go_num, rfl, R3.out, F.out.1, F.out.2⟩, by simp [intOf]; omega⟩
      · have h1b : (xi == i) = false := by simpa using h1
        have R3 : Hid (R1 = atX i s (xs.drop (k + 1)) (k + 1) c) := by show _ = _; rw [R2.out]; simp [h1]
        clear R2
        go_wp2_with (refine wpList_load_by rfl 52 (.tmp 24) rfl _ _ rfl LD ?_)
        exact ⟨⟨k + 1, c, by omega, by go_num, rfl, R3.out, F.out.1, F.out.2⟩, by simp [intOf]; omega⟩
    · obtain rfl : k = N := by omega
      have R3 : Hid (R1 = (-1, c)) := by
        show _ = _
        rw [RR.out, List.drop_of_length_le (by rw [← HN.out]; exact Nat.le_refl _)]
        rfl
      go_wp2_with fail
      go_ret2
      exact ⟨by rw [R3.out]; rfl, BR.out⟩
#print axioms at_any
end Go.Proofs.YtajllkkbgpijiaaGreatDoor
namespace Go.Proofs.YtajllkkbgpijiaaGreatDoor
open Go.RowKit

theorem atX_found (i s : Int) : ∀ (l : List Xi) (k : Nat) (c : Int), c ≠ 0 → (atX i s l k c).2 = 0 → ∃ (j : Nat) (x : Xi), (atX i s l k c).1 = ((k + j : Nat) : Int) ∧ l[j]? = some x ∧ x.i = i ∧ x.s = s
  | [], _, c, hc, h => absurd h hc
  | x :: l, k, c, hc, h => by
    simp only [atX] at h ⊢
    by_cases hm : (x.i == i && x.s == s) = true
    · rw [if_pos hm]
      obtain ⟨q1, q2⟩ : x.i = i ∧ x.s = s := by simpa using hm
      exact ⟨0, x, rfl, rfl, q1, q2⟩
    · rw [if_neg hm] at h ⊢
      obtain ⟨j, y, h1, h2, h3⟩ := atX_found i s l (k + 1) _ (by split <;> first | decide | exact hc) h
      exact ⟨j + 1, y, by rw [h1]; congr 1; omega, by simpa using h2, h3⟩
theorem storeEn (w : World) (B : Nat) (C : Array Value) (i s : Int) (nm : ByteArray) (t rt : Int) (d : Option Addr) (ld cd : Nat) (l : Option Addr) (ll cl : Nat) (h : Option Addr) (lh ch : Nat) (tg gr : Int) (T : TypeId) (hb : w.heap[B]? = some (.cells C T (0, 0))) (hC : C.size = 10) : (storeVar 52 ⟨B, 0, none⟩ (.agg (enC i s nm t rt d ld cd l ll cl h lh ch tg gr))).run Tryz.prog w = .ok () (w.setRow B (enC i s nm t rt d ld cd l ll cl h lh ch tg gr)) := storeE w B C i s nm t rt d ld cd l ll cl h lh ch tg gr T hb hC
/-- What Find answers. -/
def FdPost (i s : Int) (xs : List Xi) (w : World) (e : Ending) (w' : World) : Prop := (((atX i s xs 0 100794368).2 ≠ 0 ∧ e = .returned (.tuple #[.agg (enC 0 0 ⟨#[]⟩ 0 0 none 0 0 none 0 0 none 0 0 0 0), .int .u32 (atX i s xs 0 100794368).2])) ∨ ((atX i s xs 0 100794368).2 = 0 ∧ ∃ (j : Nat) (x : Xi), xs[j]? = some x ∧ x.i = i ∧ x.s = s ∧ e = .returned (.tuple #[.agg (enC x.i x.s x.nm x.t x.rt x.d x.ld x.cd x.l x.ll x.cl x.h x.lh x.ch x.tg x.gr), .int .u32 0]))) ∧ Below w.heap.size w w'

set_option linter.unusedSimpArgs false in
set_option maxHeartbeats 4000000 in
set_option maxRecDepth 100000 in
theorem rfind_any (q : Nat) (v : Value) (nn : Int) (xs : List Xi) (base : Nat) (i s : Int) (w : World) (hq : w.heap[q]? = some (.cells #[v, .int .i64 nn] 84 (0, 0))) (hx : IsX w base v xs) (hl : xs.length ≤ 1000000) :
    Calls Tryz.prog 67 #[.pointer (some ⟨q, 0, none⟩), plV i s] w (FdPost i s xs w) := by
  have HAT : Hid (∀ W, Below w.heap.size w W → Calls Tryz.prog 52 #[.pointer (some ⟨q, 0, none⟩), plV i s] W fun e w' => e = .returned (.tuple #[.int .i64 (atX i s xs 0 100794368).1, .int .u32 (atX i s xs 0 100794368).2]) ∧ Below W.heap.size W w') := fun W hW => at_any q v nn xs base i s W (blk11 hW hq) (hx.next hW) hl
  obtain ⟨vA, vC, rfl, hva⟩ := hx.form2
  have HX : Hid (IsX w base (.slice vA xs.length vC) xs) := hx
  have HQ : Hid (w.heap[q]? = some (.cells #[.slice vA xs.length vC, .int .i64 nn] 84 (0, 0))) := hq
  have lq := lt_of_heap hq
  obtain ⟨kx, HKX⟩ : ∃ kx, Hid (kx = (atX i s xs 0 100794368).1) := ⟨_, rfl⟩
  obtain ⟨cx, HCX⟩ : ∃ cx, Hid (cx = (atX i s xs 0 100794368).2) := ⟨_, rfl⟩
  rw [← HKX.out, ← HCX.out] at HAT
  have VA : Hid (0 < xs.length → ∃ g, vA = some ⟨g, 0, none⟩) := hva
  clear hq hx hva
  go_enter Tryz.func67, Tryz.ntmps67
  go_wp2_with fail
  refine (HAT.out _ (by repeat (first | exact Below.refl _ _ | apply Below.drew | apply Below.al))).mono ?_
  rintro e w1 ⟨rfl, hb⟩
  have B1 : Hid (Below w.heap.size w w1) := Below.andThen (by repeat (first | exact Below.refl _ _ | apply Below.drew | apply Below.al)) hb
  have E1 : Hid (w1.heap[w.heap.size + 1]? = some (.cells (enC 0 0 ⟨#[]⟩ 0 0 none 0 0 none 0 0 none 0 0 0 0) 52 (0, 0))) := blk11 hb (at11 _ _ _ (by simp))
  have cq : w1.cell? ⟨q, 0, none⟩ = some (.slice vA xs.length vC) := by rw [cell_of_row _ _ 0 _ _ _ (blk11 B1.out HQ.out)]; rfl
  clear hb
  by_cases hc : cx = 0
  case neg =>
    go_wp2_with (refine wpList_store_by rfl 52 _ _ rfl ⟨w.heap.size + 1, 0, none⟩ _ rfl rfl (storeEn _ _ _ 0 0 ⟨#[]⟩ 0 0 none 0 0 none 0 0 none 0 0 0 0 _ E1.out rfl) ?_)
    refine bodyPost_ret (v := .tuple #[.agg (enC 0 0 ⟨#[]⟩ 0 0 none 0 0 none 0 0 none 0 0 0 0), .int .u32 cx]) ?_ rfl ?_
    · have LR := loadE _ (w.heap.size + 1) 0 0 ⟨#[]⟩ 0 0 none 0 0 none 0 0 none 0 0 0 0 _ (setRow_heap _ _ _ (enC 0 0 ⟨#[]⟩ 0 0 none 0 0 none 0 0 none 0 0 0 0) _ _ E1.out)
      simp [results, Tryz.results67, asAddr, LR]
    · exact ⟨.inl ⟨by rw [← HCX.out]; exact hc, by rw [← HCX.out]⟩, below_setRow B1.out (by omega) _⟩
  subst hc
  obtain ⟨j, x, h1, h2, h3, h4⟩ := atX_found i s xs 0 100794368 (by decide) HCX.out.symm
  have hj : j < xs.length := (List.getElem?_eq_some_iff.1 h2).1
  obtain rfl : kx = (j : Int) := by rw [HKX.out, h1]; congr 1; omega
  obtain ⟨g, rfl⟩ := VA.out (by omega)
  have gj : (j : Int) < (xs.length : Int) := by omega
  have gj0 : (0 : Int) ≤ (j : Int) := by omega
  have LD := (HX.out.next B1.out).entry j x h2
  have H2 : Hid (xs[j]? = some x ∧ x.i = i ∧ x.s = s) := ⟨h2, h3, h4⟩
  obtain ⟨xi, xs9, xnm, xt, xrt, xd, xld, xcd, xl, xll, xcl, xh, xlh, xch, xtg, xgr, xv, xlv, xcv⟩ := x
  dsimp only at LD
  obtain ⟨NX, HNX⟩ : ∃ NX, Hid (NX = xs.length) := ⟨_, rfl⟩
  rw [← HNX.out] at cq gj
  clear h1 h2 h3 h4 hj
  go_wp2_with (first | (refine wpList_load_by rfl 52 (.tmp 24) rfl _ _ rfl LD ?_) | (refine wpList_store_by rfl 52 _ _ rfl ⟨w.heap.size + 1, 0, none⟩ _ rfl rfl (storeEn _ _ _ xi xs9 xnm xt xrt xd xld xcd xl xll xcl xh xlh xch xtg xgr _ E1.out rfl) ?_))
  refine bodyPost_ret (v := .tuple #[.agg (enC xi xs9 xnm xt xrt xd xld xcd xl xll xcl xh xlh xch xtg xgr), .int .u32 0]) ?_ rfl ?_
  · have LR := loadE _ (w.heap.size + 1) xi xs9 xnm xt xrt xd xld xcd xl xll xcl xh xlh xch xtg xgr _ (setRow_heap _ _ _ (enC xi xs9 xnm xt xrt xd xld xcd xl xll xcl xh xlh xch xtg xgr) _ _ E1.out)
    simp [results, Tryz.results67, asAddr, LR]
  · exact ⟨.inr ⟨HCX.out.symm, j, _, H2.out.1, H2.out.2.1, H2.out.2.2, rfl⟩, below_setRow B1.out (by omega) _⟩
#print axioms rfind_any
end Go.Proofs.YtajllkkbgpijiaaGreatDoor
