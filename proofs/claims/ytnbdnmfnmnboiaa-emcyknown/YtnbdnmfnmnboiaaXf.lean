/-
  EmcyKnows of any row of calls.
-/
import Derived.Test.YtnbdnmfnmnboiaaXe
import Derived.Test.YtnbdnmfnmnboiaaZy
namespace Go.Proofs.Ytnbdnmfnmnboiaa
open Go.RowKit

def opL (R : List Opx) : List Value := R.flatMap Opx.C
theorem Opx.C_len (x : Opx) : x.C.length = 9 := rfl
theorem opL_len (R : List Opx) : (opL R).length = R.length * 9 := by
  unfold opL
  induction R with
  | nil => rfl
  | cons x l ih => rw [List.flatMap_cons, List.length_append, ih, Opx.C_len, List.length_cons]; omega
theorem opL_app (l m : List Opx) : opL (l ++ m) = opL l ++ opL m := by unfold opL; rw [List.flatMap_append]
theorem opL_at (l : List Opx) (i : Nat) (x : Opx) (h : l[i]? = some x) (j : Nat) (u : Value) (hu : x.C[j]? = some u) : (opL l)[i * 9 + j]? = some u := by
  have hj : j < 9 := by
    rcases Nat.lt_or_ge j 9 with hh | hh
    · exact hh
    · rw [List.getElem?_eq_none (by rw [Opx.C_len]; exact hh)] at hu; cases hu
  induction l generalizing i with
  | nil => simp at h
  | cons y l ih =>
    have e : opL (y :: l) = y.C ++ opL l := rfl
    rw [e]
    cases i with
    | zero =>
      simp at h; subst h
      rw [Nat.zero_mul, Nat.zero_add, List.getElem?_append_left (by rw [Opx.C_len]; exact hj)]
      exact hu
    | succ i =>
      have := ih i (by simpa using h)
      rw [List.getElem?_append_right (by rw [Opx.C_len]; omega), Opx.C_len, show (i + 1) * 9 + j - 9 = i * 9 + j from by omega]
      exact this
/-- Where a round stands. -/
structure Kst (w wr : World) (p m : Nat) (S : ES) (R : List Opx) (rv : Value) : Prop where
  ez : Ez w wr p m S rv.ownBlock.toList
  row : Own wr 35 9 rv R.length (opL R)
  own : ∀ g, rv.ownBlock = some g → w.heap.size ≤ g
theorem Kst.next {w wr w' : World} {p m : Nat} {S : ES} {R : List Opx} {rv : Value} (h : Kst w wr p m S R rv) (hb : Below wr.heap.size wr w') : Kst w w' p m S R rv := ⟨h.ez.next hb, h.row.next hb, h.own⟩
/-- A call of the program's. -/
theorem Kst.call {w wr : World} {p m : Nat} {S S' : ES} {R : List Opx} {rv : Value} {f : Nat} {args : Array Value} {X : Ending} (h : Kst w wr p m S R rv) (hc : ∀ v, IsE wr p m v S → Calls Try.prog f args wr fun e w' => e = X ∧ EPost wr w' p m v S') : Calls Try.prog f args wr fun e w' => e = X ∧ Kst w w' p m S' R rv := by
  refine (h.ez.call hc).mono ?_
  rintro e w' ⟨rfl, h1, h2⟩
  exact ⟨rfl, h1, h.row.same (fun g hg => h2 g (by simp [hg])), h.own⟩
theorem infoOp : (Try.prog.info? 35).map (fun i => (i.zero, i.size, i.bytes)) = some (some (.agg (rowX ⟨0, 0, 0, 0, 0, 0, 0, 0, 0⟩)), 9, 24) := by kernel_rfl
/-- A row that grows by one call. -/
theorem grow_op {w wr : World} {p m : Nat} {S : ES} {R : List Opx} {rv : Value} (h : Kst w wr p m S R rv) (hl : R.length ≤ 1000) (x : Opx) :
    ∃ g o cap w', (Builtin.append_ #[22, 22] 22 #[rv, .slice (some ⟨wr.heap.size, 0, none⟩) 1 1]).run Try.prog (wr.alloc (.cells (rowX x) 35)) = .ok (.slice (some ⟨g, o, none⟩) (R.length + 1) cap) w' ∧
      Kst w w' p m S (R ++ [x]) (.slice (some ⟨g, o, none⟩) (R.length + 1) cap) := by
  obtain ⟨hez, hR, ho⟩ := h
  obtain ⟨i0, hi, hz0, hz1, hz2⟩ := info_parts infoOp
  have B1 : Below wr.heap.size wr (wr.alloc (.cells (rowX x) 35)) := (by repeat (first | exact Below.refl _ _ | apply Below.drew | apply Below.al))
  obtain ⟨g, o, cap, w', r, hO, hg, hk⟩ := Own.append (ty := 22) Try.underlying22 hi hz0 hz1 hz2 rfl (by decide) (hR.next B1) ⟨wr.heap.size, 0, none⟩ 1 1 x.C rfl (fun j u hu => by rw [add_at, Nat.zero_add, cell_of_row _ _ j _ _ _ (at11 wr (.cells (rowX x) 35) wr.heap.size rfl)]; show (List.toArray x.C)[j]? = _; rw [List.getElem?_toArray]; exact hu) (fun u hu => by simp [Opx.C] at hu; rcases hu with rfl | rfl | rfl | rfl | rfl | rfl | rfl | rfl | rfl <;> rfl) (by decide) (by omega) (by decide)
  have hgw : w.heap.size ≤ g := by
    rcases hg with hg | hg
    · exact ho g hg
    · have := hez.bel.size
      rw [hg]; simp; omega
  have kk : Kp rv.ownBlock.toList wr w' := (Kp.al (Kp.refl _ _) _).trans hk
  have hO2 : OwnAt w' 35 9 g o (R.length + 1) cap (opL (R ++ [x])) := by rw [opL_app]; exact (by simpa [opL] using hO)
  refine ⟨g, o, cap, w', r, ?_, by rw [List.length_append]; exact Own.at_of hO2, fun g' hg' => by cases hg'; exact hgw⟩
  obtain ⟨v, e, h2, h3, h4⟩ := hez
  refine ⟨v, e.kp kk (fun k hk => (h2 k hk).2), fun k hk => ⟨(h2 k hk).1, fun hm => ?_⟩, fun a ha => ?_, Kp.below h4 kk h4.size (fun b hb => ho b (by simpa using hb))⟩
  · simp [Value.ownBlock] at hm
    subst hm
    rcases hg with hg | hg
    · exact (h2 _ hk).2 (by simp [hg])
    · have := e.inh _ hk
      rw [hg] at this; simp at this; omega
  · simp [Value.ownBlock] at ha; subst ha; exact hO.lt
theorem run_min (t ty : TypeId) (a b : Int) (w : World) : (Builtin.min_ #[t, t] ty #[.int .i64 a, .int .i64 b]).run Try.prog w = .ok (.int .i64 (min a b)) w := by
  have e : (if b < a then b else a) = min a b := by split <;> omega
  rw [← e]; rfl
theorem run_max (t ty : TypeId) (a b : Int) (w : World) : (Builtin.max_ #[t, t] ty #[.int .i64 a, .int .i64 b]).run Try.prog w = .ok (.int .i64 (max a b)) w := by
  have e : (if b > a then b else a) = max a b := by split <;> omega
  rw [← e]; rfl
theorem wp_min_by {w : World} {o : Oper} {a : Act} {K : Act → World → Prop} {Q : Exit → Act → World → Prop} (s x : Operand) (t : TypeId)
    (ho : o.op = .call { callee := .builtin .min, args := #[s, x], argTypes := #[t, t] }) (m n : Int) (hs : a.eval s = .int .i64 m) (hx : a.eval x = .int .i64 n)
    (h : K (a.put o.dst (.int .i64 (min m n))) w) : o.wp Try.prog a w K Q := by
  unfold Oper.wp execOp
  simp only [ho, resolve, invoke, builtin, Sem.run_bind, Sem.run_pure, Result.andThen_ok, List.map_toArray, List.map_cons, List.map_nil, hs, hx, run_min]
  exact h
theorem wpList_min_by {w : World} {ops : Array Oper} {rest : List Oper} {o : Oper} {a : Act} {Q : Exit → Act → World → Prop} (hgd : o.guard = none) (s x : Operand) (t : TypeId)
    (ho : o.op = .call { callee := .builtin .min, args := #[s, x], argTypes := #[t, t] }) (m n : Int) (hs : a.eval s = .int .i64 m) (hx : a.eval x = .int .i64 n)
    (h : wpList Try.prog ops Q rest (a.put o.dst (.int .i64 (min m n))) w) : wpList Try.prog ops Q (o :: rest) a w :=
  wpList_plain hgd fun _ hK => wp_min_by s x t ho m n hs hx (hK _ _ h)
theorem wp_max_by {w : World} {o : Oper} {a : Act} {K : Act → World → Prop} {Q : Exit → Act → World → Prop} (s x : Operand) (t : TypeId)
    (ho : o.op = .call { callee := .builtin .max, args := #[s, x], argTypes := #[t, t] }) (m n : Int) (hs : a.eval s = .int .i64 m) (hx : a.eval x = .int .i64 n)
    (h : K (a.put o.dst (.int .i64 (max m n))) w) : o.wp Try.prog a w K Q := by
  unfold Oper.wp execOp
  simp only [ho, resolve, invoke, builtin, Sem.run_bind, Sem.run_pure, Result.andThen_ok, List.map_toArray, List.map_cons, List.map_nil, hs, hx, run_max]
  exact h
theorem wpList_max_by {w : World} {ops : Array Oper} {rest : List Oper} {o : Oper} {a : Act} {Q : Exit → Act → World → Prop} (hgd : o.guard = none) (s x : Operand) (t : TypeId)
    (ho : o.op = .call { callee := .builtin .max, args := #[s, x], argTypes := #[t, t] }) (m n : Int) (hs : a.eval s = .int .i64 m) (hx : a.eval x = .int .i64 n)
    (h : wpList Try.prog ops Q rest (a.put o.dst (.int .i64 (max m n))) w) : wpList Try.prog ops Q (o :: rest) a w :=
  wpList_plain hgd fun _ hK => wp_max_by s x t ho m n hs hx (hK _ _ h)
theorem ES.said_no {S : ES} {now : Int} (h : S.may now = false) : S.said now = frC 0 0 0 0 0 0 0 0 0 0 false := if_neg (by rw [h]; decide)
theorem Wt.read (x : Wt) (hx : x.Ok) (A : Int) (h1 : 1 ≤ A) (h2 : A ≤ 127) (w : World) : Calls Try.prog 13 #[.agg (x.A A)] w fun e w' => e = .returned (rdV A x.c x.r x.i0 x.i1 x.i2 x.i3 x.i4 true) ∧ Below w.heap.size w w' := by
  have := read_any (128 + A) 8 (x.c % 256) (x.c / 256) x.r x.i0 x.i1 x.i2 x.i3 x.i4 false (x.oct hx) (by omega) w
  rw [if_pos (by simp [rdB]; omega), show 128 + A - 128 = A from by omega, show x.c % 256 + x.c / 256 * 256 = x.c from by omega] at this
  exact this
set_option linter.unusedSimpArgs false in
set_option maxHeartbeats 4000000 in
set_option maxRecDepth 100000 in
theorem knows_bad (a0 i0 : Int) (a : Option Addr) (len cap : Nat) (w : World) (h : ndB a0 = false ∨ tmB i0 = false) : Calls Try.prog 5 #[.int .u8 a0, .int .i64 i0, .slice a len cap] w fun e w' => e = .returned (.bool true) ∧ Below w.heap.size w w' := by
  have NP := fun W => new_bad a0 i0 h W
  clear h
  go_enter Try.func5, Try.ntmps5
  go_wp2_with fail
  refine (NP _).mono ?_
  rintro e w1 ⟨rfl, rfl⟩
  go_wp2_with fail
  refine (works_any _).mono ?_
  rintro e w' ⟨rfl, hb⟩
  go_wp2_with fail
  go_ret
  exact ⟨rfl, hb⟩
set_option linter.unusedSimpArgs false in
set_option maxHeartbeats 4000000 in
set_option maxRecDepth 100000 in
theorem knows_many (a0 i0 : Int) (a : Option Addr) (len cap : Nat) (w : World) (hl : 300 < len) (h : ndB a0 = true) (hi : tmB i0 = true) : Calls Try.prog 5 #[.int .u8 a0, .int .i64 i0, .slice a len cap] w fun e w' => e = .returned (.bool true) ∧ Below w.heap.size w w' := by
  have hl' : (300 : Int) < (len : Int) := by omega
  have NP := fun W => new_ok a0 i0 h hi W
  clear h hi
  go_enter Try.func5, Try.ntmps5
  go_wp2_with fail
  refine (NP _).mono ?_
  rintro e w1 ⟨⟨p, m, rfl, hE, lp, lm⟩, b1⟩
  clear hE lp lm
  go_wp2_with fail
  refine (works_any _).mono ?_
  rintro e w' ⟨rfl, hb⟩
  go_wp2_with fail
  go_ret
  exact ⟨rfl, Below.andThen b1 hb⟩
set_option linter.unusedSimpArgs false in
set_option maxHeartbeats 16000000 in
set_option maxRecDepth 100000 in
theorem knows_good (a0 i0 : Int) (a : Option Addr) (len cap : Nat) (L : List Opx) (w : World) (o : IsOpx w a len L) (hl : len ≤ 300) (h : ndB a0 = true) (hi : tmB i0 = true) : Calls Try.prog 5 #[.int .u8 a0, .int .i64 i0, .slice a len cap] w fun e w' => e = .returned (.bool true) ∧ Below w.heap.size w w' := by
  have hl' : ¬ (300 : Int) < (len : Int) := by omega
  have NP := fun W => new_ok a0 i0 h hi W
  obtain ⟨hi0, hi1⟩ := tmB_of hi
  have O : Hid (IsOpx w a len L) := o
  have lsz := o.size
  have wl : IntKind.i64.wrap ((len : Int) + 32) = (len : Int) + 32 := w64 _ (by omega) (by omega)
  clear o h hi
  go_enter Try.func5, Try.ntmps5
  go_wp2_with fail
  refine (NP _).mono ?_
  rintro e w1 ⟨⟨p, m, rfl, hE, lp, lm⟩, b1⟩
  have T : Hid (Kst w w1 p m (newS a0 i0) [] (.slice none 0 0) ∧ Kw a0 i0 (newS a0 i0) [] 0 (-1) 0 0) := ⟨⟨Ez.new hE lp lm b1, own_nil _ _ _, (fun g hg => by cases hg)⟩, Kw.new _ _⟩
  clear hE lp lm b1 NP
  go_wp2_with fail
  go_loopw [9, 10, 11, 12, 13, 14] (fun rv tv lv gv nv u wr => ∃ i : Nat, i ≤ len + 32 ∧ u = .int .i64 (i : Int) ∧ ∃ t : Nat, tv = .int .i64 (t : Int) ∧ ∃ last reg now : Int, lv = .int .i64 last ∧ gv = .int .u8 reg ∧ nv = .int .i64 now ∧ ∃ S R, Hid (Kst w wr p m S R rv ∧ Kw a0 i0 S R t last reg now ∧ R.length ≤ i)) (fun _ _ _ _ _ u _ => len + 32 - (intOf u).toNat)
  case atStart => exact ⟨0, Nat.zero_le _, rfl, 0, rfl, _, _, _, rfl, rfl, rfl, _, _, T.out.1, T.out.2, Nat.le_refl _⟩
  case round =>
    clear T
    obtain ⟨i, hil, rfl, t, rfl, last, reg, now, rfl, rfl, rfl, S, R, TR⟩ := hrel
    obtain ⟨n, hn⟩ : ∃ n, Hid (n = R.length) := ⟨_, rfl⟩
    obtain ⟨ra, rc, hrv⟩ : ∃ ra rc, u9 = .slice ra n rc := by rw [hn.out]; exact TR.out.1.row.form
    subst hrv
    have N0 : Hid (0 ≤ now ∧ now ≤ 1099511627776) := ⟨TR.out.2.1.n0, TR.out.2.1.n1⟩
    have BB : Hid (Below w.heap.size w wr) := TR.out.1.ez.bel
    by_cases hlt : i < len + 32
    rotate_left
    · have g1 : ¬ (i : Int) < (len : Int) + 32 := by omega
      go_wp2_with fail
      refine (TR.out.1.ez.read fun v hv => due_any hv).mono ?_
      rintro e wd ⟨rfl, ED, -⟩
      have KD := TR.out.2.1
      have BD : Hid (Below w.heap.size w wd) := ED.bel
      by_cases hw : S.ws = []
      rotate_left
      · have hb : (!S.ws.isEmpty) = true := by cases hq : S.ws with
        | nil => exact absurd hq hw
        | cons _ _ => rfl
        rw [hb]
        clear ED KD TR hw hb
        go_wp2_with fail
        refine (works_any _).mono ?_
        rintro e w' ⟨rfl, hb⟩
        go_wp2_with fail
        go_ret
        exact ⟨rfl, Below.andThen BD.out hb⟩
      have hb : (!S.ws.isEmpty) = false := by rw [hw]; rfl
      rw [hb]
      obtain ⟨k1, k2⟩ := KD.done hw
      have tn : t = n := by rw [hn.out]; exact k2
      rw [k1, tn]
      clear KD TR hw hb k1 k2 tn
      go_wp2_with fail
      refine (ED.read fun v hv => register_any hv).mono ?_
      rintro e wg ⟨rfl, EG, -⟩
      have BG : Hid (Below w.heap.size w wg) := EG.bel
      clear ED EG
      go_wp2_with fail
      refine (works_any _).mono ?_
      rintro e w' ⟨rfl, hb⟩
      go_wp2_with fail
      go_ret
      exact ⟨rfl, Below.andThen BG.out hb⟩
    have g1 : (i : Int) < (len : Int) + 32 := by omega
    have wi : IntKind.i64.wrap ((i : Int) + 1) = ((i + 1 : Nat) : Int) := by rw [IntKind.wrap_i64]; omega
    by_cases hlo : i < len
    rotate_left
    · have g2 : (len : Int) ≤ (i : Int) := by omega
      have wn : IntKind.i64.wrap (now + i0) = now + i0 := w64 _ (by have := N0.out; omega) (by have := N0.out; omega)
      by_cases hc1 : (1099511627776 : Int) < now + i0
      · have TQ : Hid (Kst w wr p m S R (.slice ra n rc) ∧ Kw a0 i0 S R t last reg (1099511627776) ∧ R.length ≤ i) := ⟨TR.out.1, TR.out.2.1.time (by have := N0.out; omega) (by have := N0.out; omega), TR.out.2.2⟩
        clear TR
        as_aux_lemma =>
          go_wp2_with fail
          have TK := TQ.out.1.call fun v hv => tick_any hv 1099511627776
          have KQ : Hid (Kw a0 i0 S R t last reg 1099511627776 ∧ R.length ≤ i) := TQ.out.2
          have SO : Hid S.Ok := TQ.out.1.ez.ok
          cases hm : S.may 1099511627776 with
          | false =>
            rw [hm, ES.said_no hm] at TK
            have KN : Hid (Kw a0 i0 (S.tick 1099511627776) R t last reg 1099511627776) := KQ.out.1.quiet hm
            clear TQ hm
            go_wp2_with fail
            refine TK.mono ?_
            rintro e wt ⟨rfl, ET⟩
            have F1 : Hid (Kst w (wt.alloc (.cells (frC 0 0 0 0 0 0 0 0 0 0 false) 40)) p m (S.tick 1099511627776) R (.slice ra n rc)) := ET.next (by repeat (first | exact Below.refl _ _ | apply Below.drew | apply Below.al))
            clear TK ET
            have FIN : Hid _ := And.intro F1.out (And.intro KN.out (Nat.le_succ_of_le KQ.out.2))
            go_wp2_with fail
            exact ⟨⟨i + 1, by omega, by go_num, t, by go_num, last, reg, 1099511627776, rfl, rfl, rfl, _, R, FIN.out⟩, by simp [intOf]; omega⟩
          | true =>
            obtain ⟨f, hs, hin, hnl, k1, k0⟩ := KQ.out.1.heard hm
            have FO : Hid f.Ok := SO.out.wok f hin
            have K1 : Hid (f.c ≠ 0 → ∃ y, R[t]? = some y ∧ y.by = f.by ∧ Kw a0 i0 (S.tick 1099511627776) R (t + 1) 1099511627776 f.r 1099511627776) := k1
            have K0 : Hid (f.c = 0 → Kw a0 i0 (S.tick 1099511627776) R t 1099511627776 f.r 1099511627776) := k0
            rw [hm, hs] at TK
            have RD := fun W => f.read FO.out a0 (by have := SO.out.a0; have := KQ.out.1.hA; omega) (by have := SO.out.a1; have := KQ.out.1.hA; omega) W
            have NL : Hid (¬ (0 ≤ last ∧ 1099511627776 - last < i0)) := hnl
            have LT : Hid (last = -1 ∨ 0 ≤ last ∧ last ≤ 1099511627776 ∧ 1099511627776 ≤ 1099511627776) := by have h1 := KQ.out.1.lt; have h2 := KQ.out.1.n1; show _ ∨ _; omega
            clear TQ hm k1 k0 hs hin hnl
            go_wp2_with fail
            refine TK.mono ?_
            rintro e wt ⟨rfl, ET⟩
            have E1 : Hid (Kst w (wt.alloc (.cells (f.A a0) 40)) p m (S.tick 1099511627776) R (.slice ra n rc)) := ET.next (by repeat (first | exact Below.refl _ _ | apply Below.drew | apply Below.al))
            clear TK ET
            go_wp2_with fail
            refine (RD _).mono ?_
            rintro e wq ⟨rfl, bq⟩
            have E2 : Hid (Kst w (wq.alloc (.cells #[.int .u8 f.i0, .int .u8 f.i1, .int .u8 f.i2, .int .u8 f.i3, .int .u8 f.i4] 33)) p m (S.tick 1099511627776) R (.slice ra n rc)) := (E1.out.next bq).next (by repeat (first | exact Below.refl _ _ | apply Below.drew | apply Below.al))
            clear bq RD E1
            obtain ⟨y, hy⟩ : ∃ y, y = wq.alloc (.cells #[.int .u8 f.i0, .int .u8 f.i1, .int .u8 f.i2, .int .u8 f.i3, .int .u8 f.i4] 33) := ⟨_, rfl⟩
            obtain ⟨B5, hB5⟩ : ∃ B5, B5 = wq.heap.size := ⟨_, rfl⟩
            have FB : y.heap[B5]? = some (.cells #[.int .u8 f.i0, .int .u8 f.i1, .int .u8 f.i2, .int .u8 f.i3, .int .u8 f.i4] 33 (0, 0)) := by rw [hy, hB5]; exact at11 _ _ _ rfl
            rw [← hy] at E2
            have e0 : y.cell? ⟨B5, 0, none⟩ = some (.int .u8 f.i0) := by rw [cell_of_row y _ 0 _ _ _ FB]; rfl
            have e1 : y.cell? ⟨B5, 1, none⟩ = some (.int .u8 f.i1) := by rw [cell_of_row y _ 1 _ _ _ FB]; rfl
            have e2 : y.cell? ⟨B5, 2, none⟩ = some (.int .u8 f.i2) := by rw [cell_of_row y _ 2 _ _ _ FB]; rfl
            have e3 : y.cell? ⟨B5, 3, none⟩ = some (.int .u8 f.i3) := by rw [cell_of_row y _ 3 _ _ _ FB]; rfl
            have e4 : y.cell? ⟨B5, 4, none⟩ = some (.int .u8 f.i4) := by rw [cell_of_row y _ 4 _ _ _ FB]; rfl
            have LB := lt_of_heap FB
            clear FB
            have HY : Hid (y = wq.alloc (.cells #[.int .u8 f.i0, .int .u8 f.i1, .int .u8 f.i2, .int .u8 f.i3, .int .u8 f.i4] 33) ∧ B5 = wq.heap.size) := ⟨hy, hB5⟩
            clear hy hB5
            by_cases h0 : 0 ≤ last
            · have hge : ¬ 1099511627776 - last < i0 := fun hq => NL.out ⟨h0, hq⟩
              have wd : IntKind.i64.wrap (1099511627776 - last) = 1099511627776 - last := w64 _ (by have := LT.out; omega) (by have := LT.out; omega)
              by_cases hc : f.c = 0
              · have FIN : Hid _ := And.intro E2.out (And.intro (K0.out hc) (Nat.le_succ_of_le KQ.out.2))
                go_wp2_with fail
                rw [← HY.out.1]
                exact ⟨⟨i + 1, by omega, by go_num, t, by go_num, 1099511627776, f.r, 1099511627776, rfl, rfl, rfl, _, R, FIN.out⟩, by simp [intOf]; omega⟩
              · obtain ⟨g, hg, hby, kn⟩ := K1.out hc
                have KN : Hid (Kw a0 i0 (S.tick 1099511627776) R (t + 1) 1099511627776 f.r 1099511627776) := kn
                have htn : t < n := by rw [hn.out]; exact (List.getElem?_eq_some_iff.1 hg).1
                have hrow : Own y 35 9 (.slice ra n rc) n (opL R) := by have z := E2.out.row; rw [← hn.out] at z; exact z
                obtain ⟨g5, o5, c5, e5, hR5⟩ := hrow.pos (by omega)
                cases e5
                simp only [Opx.by, Wt.by, List.cons.injEq, and_true] at hby
                obtain ⟨b0, b1, b2, b3, b4, b5⟩ := hby
                have x1 : y.cell? ⟨g5, o5 + t * 9 + 1, none⟩ = some (.int .u16 f.c) := by rw [Nat.add_assoc, ← b0]; exact hR5.cell _ _ (opL_at R t g hg 1 _ rfl)
                have x3 : y.cell? ⟨g5, o5 + t * 9 + 3, none⟩ = some (.int .u8 f.i0) := by rw [Nat.add_assoc, ← b1]; exact hR5.cell _ _ (opL_at R t g hg 3 _ rfl)
                have x4 : y.cell? ⟨g5, o5 + t * 9 + 4, none⟩ = some (.int .u8 f.i1) := by rw [Nat.add_assoc, ← b2]; exact hR5.cell _ _ (opL_at R t g hg 4 _ rfl)
                have x5 : y.cell? ⟨g5, o5 + t * 9 + 5, none⟩ = some (.int .u8 f.i2) := by rw [Nat.add_assoc, ← b3]; exact hR5.cell _ _ (opL_at R t g hg 5 _ rfl)
                have x6 : y.cell? ⟨g5, o5 + t * 9 + 6, none⟩ = some (.int .u8 f.i3) := by rw [Nat.add_assoc, ← b4]; exact hR5.cell _ _ (opL_at R t g hg 6 _ rfl)
                have x7 : y.cell? ⟨g5, o5 + t * 9 + 7, none⟩ = some (.int .u8 f.i4) := by rw [Nat.add_assoc, ← b5]; exact hR5.cell _ _ (opL_at R t g hg 7 _ rfl)
                have NQ : ∀ W, (binOp .neq 33 (arr5 f.i0 f.i1 f.i2 f.i3 f.i4) (arr5 f.i0 f.i1 f.i2 f.i3 f.i4)).run Try.prog W = .ok (.bool false) W := fun W => neq5 W _ _ _ _ _
                have tn1 : ¬ (n : Int) ≤ (t : Int) := by omega
                have tn2 : (t : Int) < (n : Int) := by omega
                have wt1 : IntKind.i64.wrap ((t : Int) + 1) = ((t + 1 : Nat) : Int) := by rw [IntKind.wrap_i64]; have := KQ.out.2; have := hn.out; omega
                clear hR5 hrow b0 b1 b2 b3 b4 b5 kn hg
                go_wp2_with fail
                rw [← HY.out.1, ← HY.out.2]
                go_wp2_with fail
                skip
                go_quiet (fail)
                go_wp2_with fail
                exact ⟨⟨i + 1, by omega, by go_num, t + 1, by go_num, 1099511627776, f.r, 1099511627776, rfl, rfl, rfl, _, R, And.intro (E2.out.next (below_drewN (Below.refl _ _) _)) (And.intro KN.out (Nat.le_succ_of_le KQ.out.2))⟩, by simp [intOf]; omega⟩
            · by_cases hc : f.c = 0
              · have FIN : Hid _ := And.intro E2.out (And.intro (K0.out hc) (Nat.le_succ_of_le KQ.out.2))
                go_wp2_with fail
                rw [← HY.out.1]
                exact ⟨⟨i + 1, by omega, by go_num, t, by go_num, 1099511627776, f.r, 1099511627776, rfl, rfl, rfl, _, R, FIN.out⟩, by simp [intOf]; omega⟩
              · obtain ⟨g, hg, hby, kn⟩ := K1.out hc
                have KN : Hid (Kw a0 i0 (S.tick 1099511627776) R (t + 1) 1099511627776 f.r 1099511627776) := kn
                have htn : t < n := by rw [hn.out]; exact (List.getElem?_eq_some_iff.1 hg).1
                have hrow : Own y 35 9 (.slice ra n rc) n (opL R) := by have z := E2.out.row; rw [← hn.out] at z; exact z
                obtain ⟨g5, o5, c5, e5, hR5⟩ := hrow.pos (by omega)
                cases e5
                simp only [Opx.by, Wt.by, List.cons.injEq, and_true] at hby
                obtain ⟨b0, b1, b2, b3, b4, b5⟩ := hby
                have x1 : y.cell? ⟨g5, o5 + t * 9 + 1, none⟩ = some (.int .u16 f.c) := by rw [Nat.add_assoc, ← b0]; exact hR5.cell _ _ (opL_at R t g hg 1 _ rfl)
                have x3 : y.cell? ⟨g5, o5 + t * 9 + 3, none⟩ = some (.int .u8 f.i0) := by rw [Nat.add_assoc, ← b1]; exact hR5.cell _ _ (opL_at R t g hg 3 _ rfl)
                have x4 : y.cell? ⟨g5, o5 + t * 9 + 4, none⟩ = some (.int .u8 f.i1) := by rw [Nat.add_assoc, ← b2]; exact hR5.cell _ _ (opL_at R t g hg 4 _ rfl)
                have x5 : y.cell? ⟨g5, o5 + t * 9 + 5, none⟩ = some (.int .u8 f.i2) := by rw [Nat.add_assoc, ← b3]; exact hR5.cell _ _ (opL_at R t g hg 5 _ rfl)
                have x6 : y.cell? ⟨g5, o5 + t * 9 + 6, none⟩ = some (.int .u8 f.i3) := by rw [Nat.add_assoc, ← b4]; exact hR5.cell _ _ (opL_at R t g hg 6 _ rfl)
                have x7 : y.cell? ⟨g5, o5 + t * 9 + 7, none⟩ = some (.int .u8 f.i4) := by rw [Nat.add_assoc, ← b5]; exact hR5.cell _ _ (opL_at R t g hg 7 _ rfl)
                have NQ : ∀ W, (binOp .neq 33 (arr5 f.i0 f.i1 f.i2 f.i3 f.i4) (arr5 f.i0 f.i1 f.i2 f.i3 f.i4)).run Try.prog W = .ok (.bool false) W := fun W => neq5 W _ _ _ _ _
                have tn1 : ¬ (n : Int) ≤ (t : Int) := by omega
                have tn2 : (t : Int) < (n : Int) := by omega
                have wt1 : IntKind.i64.wrap ((t : Int) + 1) = ((t + 1 : Nat) : Int) := by rw [IntKind.wrap_i64]; have := KQ.out.2; have := hn.out; omega
                clear hR5 hrow b0 b1 b2 b3 b4 b5 kn hg
                go_wp2_with fail
                rw [← HY.out.1, ← HY.out.2]
                go_wp2_with fail
                skip
                go_quiet (fail)
                go_wp2_with fail
                exact ⟨⟨i + 1, by omega, by go_num, t + 1, by go_num, 1099511627776, f.r, 1099511627776, rfl, rfl, rfl, _, R, And.intro (E2.out.next (below_drewN (Below.refl _ _) _)) (And.intro KN.out (Nat.le_succ_of_le KQ.out.2))⟩, by simp [intOf]; omega⟩
      · have TQ : Hid (Kst w wr p m S R (.slice ra n rc) ∧ Kw a0 i0 S R t last reg (now + i0) ∧ R.length ≤ i) := ⟨TR.out.1, TR.out.2.1.time (by have := N0.out; omega) (by have := N0.out; omega), TR.out.2.2⟩
        clear TR
        as_aux_lemma =>
          go_wp2_with fail
          have TK := TQ.out.1.call fun v hv => tick_any hv (now + i0)
          have KQ : Hid (Kw a0 i0 S R t last reg (now + i0) ∧ R.length ≤ i) := TQ.out.2
          have SO : Hid S.Ok := TQ.out.1.ez.ok
          cases hm : S.may (now + i0) with
          | false =>
            rw [hm, ES.said_no hm] at TK
            have KN : Hid (Kw a0 i0 (S.tick (now + i0)) R t last reg (now + i0)) := KQ.out.1.quiet hm
            clear TQ hm
            go_wp2_with fail
            refine TK.mono ?_
            rintro e wt ⟨rfl, ET⟩
            have F1 : Hid (Kst w (wt.alloc (.cells (frC 0 0 0 0 0 0 0 0 0 0 false) 40)) p m (S.tick (now + i0)) R (.slice ra n rc)) := ET.next (by repeat (first | exact Below.refl _ _ | apply Below.drew | apply Below.al))
            clear TK ET
            have FIN : Hid _ := And.intro F1.out (And.intro KN.out (Nat.le_succ_of_le KQ.out.2))
            go_wp2_with fail
            exact ⟨⟨i + 1, by omega, by go_num, t, by go_num, last, reg, (now + i0), rfl, rfl, rfl, _, R, FIN.out⟩, by simp [intOf]; omega⟩
          | true =>
            obtain ⟨f, hs, hin, hnl, k1, k0⟩ := KQ.out.1.heard hm
            have FO : Hid f.Ok := SO.out.wok f hin
            have K1 : Hid (f.c ≠ 0 → ∃ y, R[t]? = some y ∧ y.by = f.by ∧ Kw a0 i0 (S.tick (now + i0)) R (t + 1) (now + i0) f.r (now + i0)) := k1
            have K0 : Hid (f.c = 0 → Kw a0 i0 (S.tick (now + i0)) R t (now + i0) f.r (now + i0)) := k0
            rw [hm, hs] at TK
            have RD := fun W => f.read FO.out a0 (by have := SO.out.a0; have := KQ.out.1.hA; omega) (by have := SO.out.a1; have := KQ.out.1.hA; omega) W
            have NL : Hid (¬ (0 ≤ last ∧ (now + i0) - last < i0)) := hnl
            have LT : Hid (last = -1 ∨ 0 ≤ last ∧ last ≤ (now + i0) ∧ (now + i0) ≤ 1099511627776) := by have h1 := KQ.out.1.lt; have h2 := KQ.out.1.n1; show _ ∨ _; omega
            clear TQ hm k1 k0 hs hin hnl
            go_wp2_with fail
            refine TK.mono ?_
            rintro e wt ⟨rfl, ET⟩
            have E1 : Hid (Kst w (wt.alloc (.cells (f.A a0) 40)) p m (S.tick (now + i0)) R (.slice ra n rc)) := ET.next (by repeat (first | exact Below.refl _ _ | apply Below.drew | apply Below.al))
            clear TK ET
            go_wp2_with fail
            refine (RD _).mono ?_
            rintro e wq ⟨rfl, bq⟩
            have E2 : Hid (Kst w (wq.alloc (.cells #[.int .u8 f.i0, .int .u8 f.i1, .int .u8 f.i2, .int .u8 f.i3, .int .u8 f.i4] 33)) p m (S.tick (now + i0)) R (.slice ra n rc)) := (E1.out.next bq).next (by repeat (first | exact Below.refl _ _ | apply Below.drew | apply Below.al))
            clear bq RD E1
            obtain ⟨y, hy⟩ : ∃ y, y = wq.alloc (.cells #[.int .u8 f.i0, .int .u8 f.i1, .int .u8 f.i2, .int .u8 f.i3, .int .u8 f.i4] 33) := ⟨_, rfl⟩
            obtain ⟨B5, hB5⟩ : ∃ B5, B5 = wq.heap.size := ⟨_, rfl⟩
            have FB : y.heap[B5]? = some (.cells #[.int .u8 f.i0, .int .u8 f.i1, .int .u8 f.i2, .int .u8 f.i3, .int .u8 f.i4] 33 (0, 0)) := by rw [hy, hB5]; exact at11 _ _ _ rfl
            rw [← hy] at E2
            have e0 : y.cell? ⟨B5, 0, none⟩ = some (.int .u8 f.i0) := by rw [cell_of_row y _ 0 _ _ _ FB]; rfl
            have e1 : y.cell? ⟨B5, 1, none⟩ = some (.int .u8 f.i1) := by rw [cell_of_row y _ 1 _ _ _ FB]; rfl
            have e2 : y.cell? ⟨B5, 2, none⟩ = some (.int .u8 f.i2) := by rw [cell_of_row y _ 2 _ _ _ FB]; rfl
            have e3 : y.cell? ⟨B5, 3, none⟩ = some (.int .u8 f.i3) := by rw [cell_of_row y _ 3 _ _ _ FB]; rfl
            have e4 : y.cell? ⟨B5, 4, none⟩ = some (.int .u8 f.i4) := by rw [cell_of_row y _ 4 _ _ _ FB]; rfl
            have LB := lt_of_heap FB
            clear FB
            have HY : Hid (y = wq.alloc (.cells #[.int .u8 f.i0, .int .u8 f.i1, .int .u8 f.i2, .int .u8 f.i3, .int .u8 f.i4] 33) ∧ B5 = wq.heap.size) := ⟨hy, hB5⟩
            clear hy hB5
            by_cases h0 : 0 ≤ last
            · have hge : ¬ (now + i0) - last < i0 := fun hq => NL.out ⟨h0, hq⟩
              have wd : IntKind.i64.wrap ((now + i0) - last) = (now + i0) - last := w64 _ (by have := LT.out; omega) (by have := LT.out; omega)
              by_cases hc : f.c = 0
              · have FIN : Hid _ := And.intro E2.out (And.intro (K0.out hc) (Nat.le_succ_of_le KQ.out.2))
                go_wp2_with fail
                rw [← HY.out.1]
                exact ⟨⟨i + 1, by omega, by go_num, t, by go_num, (now + i0), f.r, (now + i0), rfl, rfl, rfl, _, R, FIN.out⟩, by simp [intOf]; omega⟩
              · obtain ⟨g, hg, hby, kn⟩ := K1.out hc
                have KN : Hid (Kw a0 i0 (S.tick (now + i0)) R (t + 1) (now + i0) f.r (now + i0)) := kn
                have htn : t < n := by rw [hn.out]; exact (List.getElem?_eq_some_iff.1 hg).1
                have hrow : Own y 35 9 (.slice ra n rc) n (opL R) := by have z := E2.out.row; rw [← hn.out] at z; exact z
                obtain ⟨g5, o5, c5, e5, hR5⟩ := hrow.pos (by omega)
                cases e5
                simp only [Opx.by, Wt.by, List.cons.injEq, and_true] at hby
                obtain ⟨b0, b1, b2, b3, b4, b5⟩ := hby
                have x1 : y.cell? ⟨g5, o5 + t * 9 + 1, none⟩ = some (.int .u16 f.c) := by rw [Nat.add_assoc, ← b0]; exact hR5.cell _ _ (opL_at R t g hg 1 _ rfl)
                have x3 : y.cell? ⟨g5, o5 + t * 9 + 3, none⟩ = some (.int .u8 f.i0) := by rw [Nat.add_assoc, ← b1]; exact hR5.cell _ _ (opL_at R t g hg 3 _ rfl)
                have x4 : y.cell? ⟨g5, o5 + t * 9 + 4, none⟩ = some (.int .u8 f.i1) := by rw [Nat.add_assoc, ← b2]; exact hR5.cell _ _ (opL_at R t g hg 4 _ rfl)
                have x5 : y.cell? ⟨g5, o5 + t * 9 + 5, none⟩ = some (.int .u8 f.i2) := by rw [Nat.add_assoc, ← b3]; exact hR5.cell _ _ (opL_at R t g hg 5 _ rfl)
                have x6 : y.cell? ⟨g5, o5 + t * 9 + 6, none⟩ = some (.int .u8 f.i3) := by rw [Nat.add_assoc, ← b4]; exact hR5.cell _ _ (opL_at R t g hg 6 _ rfl)
                have x7 : y.cell? ⟨g5, o5 + t * 9 + 7, none⟩ = some (.int .u8 f.i4) := by rw [Nat.add_assoc, ← b5]; exact hR5.cell _ _ (opL_at R t g hg 7 _ rfl)
                have NQ : ∀ W, (binOp .neq 33 (arr5 f.i0 f.i1 f.i2 f.i3 f.i4) (arr5 f.i0 f.i1 f.i2 f.i3 f.i4)).run Try.prog W = .ok (.bool false) W := fun W => neq5 W _ _ _ _ _
                have tn1 : ¬ (n : Int) ≤ (t : Int) := by omega
                have tn2 : (t : Int) < (n : Int) := by omega
                have wt1 : IntKind.i64.wrap ((t : Int) + 1) = ((t + 1 : Nat) : Int) := by rw [IntKind.wrap_i64]; have := KQ.out.2; have := hn.out; omega
                clear hR5 hrow b0 b1 b2 b3 b4 b5 kn hg
                go_wp2_with fail
                rw [← HY.out.1, ← HY.out.2]
                go_wp2_with fail
                skip
                go_quiet (fail)
                go_wp2_with fail
                exact ⟨⟨i + 1, by omega, by go_num, t + 1, by go_num, (now + i0), f.r, (now + i0), rfl, rfl, rfl, _, R, And.intro (E2.out.next (below_drewN (Below.refl _ _) _)) (And.intro KN.out (Nat.le_succ_of_le KQ.out.2))⟩, by simp [intOf]; omega⟩
            · by_cases hc : f.c = 0
              · have FIN : Hid _ := And.intro E2.out (And.intro (K0.out hc) (Nat.le_succ_of_le KQ.out.2))
                go_wp2_with fail
                rw [← HY.out.1]
                exact ⟨⟨i + 1, by omega, by go_num, t, by go_num, (now + i0), f.r, (now + i0), rfl, rfl, rfl, _, R, FIN.out⟩, by simp [intOf]; omega⟩
              · obtain ⟨g, hg, hby, kn⟩ := K1.out hc
                have KN : Hid (Kw a0 i0 (S.tick (now + i0)) R (t + 1) (now + i0) f.r (now + i0)) := kn
                have htn : t < n := by rw [hn.out]; exact (List.getElem?_eq_some_iff.1 hg).1
                have hrow : Own y 35 9 (.slice ra n rc) n (opL R) := by have z := E2.out.row; rw [← hn.out] at z; exact z
                obtain ⟨g5, o5, c5, e5, hR5⟩ := hrow.pos (by omega)
                cases e5
                simp only [Opx.by, Wt.by, List.cons.injEq, and_true] at hby
                obtain ⟨b0, b1, b2, b3, b4, b5⟩ := hby
                have x1 : y.cell? ⟨g5, o5 + t * 9 + 1, none⟩ = some (.int .u16 f.c) := by rw [Nat.add_assoc, ← b0]; exact hR5.cell _ _ (opL_at R t g hg 1 _ rfl)
                have x3 : y.cell? ⟨g5, o5 + t * 9 + 3, none⟩ = some (.int .u8 f.i0) := by rw [Nat.add_assoc, ← b1]; exact hR5.cell _ _ (opL_at R t g hg 3 _ rfl)
                have x4 : y.cell? ⟨g5, o5 + t * 9 + 4, none⟩ = some (.int .u8 f.i1) := by rw [Nat.add_assoc, ← b2]; exact hR5.cell _ _ (opL_at R t g hg 4 _ rfl)
                have x5 : y.cell? ⟨g5, o5 + t * 9 + 5, none⟩ = some (.int .u8 f.i2) := by rw [Nat.add_assoc, ← b3]; exact hR5.cell _ _ (opL_at R t g hg 5 _ rfl)
                have x6 : y.cell? ⟨g5, o5 + t * 9 + 6, none⟩ = some (.int .u8 f.i3) := by rw [Nat.add_assoc, ← b4]; exact hR5.cell _ _ (opL_at R t g hg 6 _ rfl)
                have x7 : y.cell? ⟨g5, o5 + t * 9 + 7, none⟩ = some (.int .u8 f.i4) := by rw [Nat.add_assoc, ← b5]; exact hR5.cell _ _ (opL_at R t g hg 7 _ rfl)
                have NQ : ∀ W, (binOp .neq 33 (arr5 f.i0 f.i1 f.i2 f.i3 f.i4) (arr5 f.i0 f.i1 f.i2 f.i3 f.i4)).run Try.prog W = .ok (.bool false) W := fun W => neq5 W _ _ _ _ _
                have tn1 : ¬ (n : Int) ≤ (t : Int) := by omega
                have tn2 : (t : Int) < (n : Int) := by omega
                have wt1 : IntKind.i64.wrap ((t : Int) + 1) = ((t + 1 : Nat) : Int) := by rw [IntKind.wrap_i64]; have := KQ.out.2; have := hn.out; omega
                clear hR5 hrow b0 b1 b2 b3 b4 b5 kn hg
                go_wp2_with fail
                rw [← HY.out.1, ← HY.out.2]
                go_wp2_with fail
                skip
                go_quiet (fail)
                go_wp2_with fail
                exact ⟨⟨i + 1, by omega, by go_num, t + 1, by go_num, (now + i0), f.r, (now + i0), rfl, rfl, rfl, _, R, And.intro (E2.out.next (below_drewN (Below.refl _ _) _)) (And.intro KN.out (Nat.le_succ_of_le KQ.out.2))⟩, by simp [intOf]; omega⟩
    have g2 : ¬ (len : Int) ≤ (i : Int) := by omega
    have g3 : (i : Int) < (len : Int) := by omega
    obtain ⟨x, hx⟩ : ∃ x, L[i]? = some x := ⟨L[i]'(by omega), List.getElem?_eq_getElem _⟩
    have XO : Hid x.Ok := O.out.good x (List.mem_of_getElem? hx)
    obtain ⟨b, off, e2, hc0⟩ := O.out.at_ (by omega)
    subst e2
    have HC : Hid (∀ W, Below w.heap.size w W → ∀ j v, x.C[j]? = some v → W.cell? ⟨b, off + i * 9 + j, none⟩ = some v) := fun W hW j v hv => cl11 hW (hc0 i x hx j v hv)
    clear hc0
    have c0 : wr.cell? ⟨b, off + i * 9, none⟩ = some (.int .u8 x.k) := HC.out _ BB.out 0 _ rfl
    have c1 : wr.cell? ⟨b, off + i * 9 + 1, none⟩ = some (.int .u16 x.c) := HC.out _ BB.out 1 _ rfl
    have c2 : wr.cell? ⟨b, off + i * 9 + 2, none⟩ = some (.int .u8 (x.b : Int)) := HC.out _ BB.out 2 _ rfl
    have c3 : wr.cell? ⟨b, off + i * 9 + 3, none⟩ = some (.int .u8 x.i0) := HC.out _ BB.out 3 _ rfl
    have c4 : wr.cell? ⟨b, off + i * 9 + 4, none⟩ = some (.int .u8 x.i1) := HC.out _ BB.out 4 _ rfl
    have c5 : wr.cell? ⟨b, off + i * 9 + 5, none⟩ = some (.int .u8 x.i2) := HC.out _ BB.out 5 _ rfl
    have c6 : wr.cell? ⟨b, off + i * 9 + 6, none⟩ = some (.int .u8 x.i3) := HC.out _ BB.out 6 _ rfl
    have c7 : wr.cell? ⟨b, off + i * 9 + 7, none⟩ = some (.int .u8 x.i4) := HC.out _ BB.out 7 _ rfl
    have c8 : wr.cell? ⟨b, off + i * 9 + 8, none⟩ = some (.int .i64 x.now) := HC.out _ BB.out 8 _ rfl
    have km := Int.tmod_eq_emod_of_nonneg (b := 8) XO.out.k0
    have kp := Int.emod_nonneg x.k (b := 8) (by decide)
    have R1 : x.k.tmod 8 = x.k % 8 := km
    clear km
    have U8 : Hid (0 ≤ x.k % 8) := kp
    by_cases h3 : x.k % 8 < 3
    rotate_left
    · by_cases h4 : x.k % 8 = 3
      · have KC : Hid (Kw a0 i0 (S.clear x.c) R t last reg now ∧ R.length ≤ i) := ⟨TR.out.2.1.clear _, TR.out.2.2⟩
        go_wp2_with fail
        refine (TR.out.1.call fun v hv => clear_any hv x.c).mono ?_
        rintro e wq ⟨rfl, EQ⟩
        clear c0 c1 c2 c3 c4 c5 c6 c7 c8 TR
        have FIN : Hid _ := And.intro EQ (And.intro KC.out.1 (Nat.le_succ_of_le KC.out.2))
        go_wp2_with fail
        exact ⟨⟨i + 1, by omega, by go_num, t, by go_num, last, reg, now, rfl, rfl, rfl, _, R, FIN.out⟩, by simp [intOf]; omega⟩
      · by_cases h6 : x.k % 8 < 6
        · by_cases hc1 : (549755813888 : Int) < x.now
          · by_cases hc2 : now < (549755813888 : Int)
            · have TQ : Hid (Kst w wr p m S R (.slice ra n rc) ∧ Kw a0 i0 S R t last reg (549755813888) ∧ R.length ≤ i) := ⟨TR.out.1, TR.out.2.1.time (by have := N0.out; omega) (by have := N0.out; omega), TR.out.2.2⟩
              clear TR
              as_aux_lemma =>
                go_wp2_with fail
                clear c0 c1 c2 c3 c4 c5 c6 c7 c8
                have TK := TQ.out.1.call fun v hv => tick_any hv 549755813888
                have KQ : Hid (Kw a0 i0 S R t last reg 549755813888 ∧ R.length ≤ i) := TQ.out.2
                have SO : Hid S.Ok := TQ.out.1.ez.ok
                cases hm : S.may 549755813888 with
                | false =>
                  rw [hm, ES.said_no hm] at TK
                  have KN : Hid (Kw a0 i0 (S.tick 549755813888) R t last reg 549755813888) := KQ.out.1.quiet hm
                  clear TQ hm
                  go_wp2_with fail
                  refine TK.mono ?_
                  rintro e wt ⟨rfl, ET⟩
                  have F1 : Hid (Kst w (wt.alloc (.cells (frC 0 0 0 0 0 0 0 0 0 0 false) 40)) p m (S.tick 549755813888) R (.slice ra n rc)) := ET.next (by repeat (first | exact Below.refl _ _ | apply Below.drew | apply Below.al))
                  clear TK ET
                  have FIN : Hid _ := And.intro F1.out (And.intro KN.out (Nat.le_succ_of_le KQ.out.2))
                  go_wp2_with fail
                  exact ⟨⟨i + 1, by omega, by go_num, t, by go_num, last, reg, 549755813888, rfl, rfl, rfl, _, R, FIN.out⟩, by simp [intOf]; omega⟩
                | true =>
                  obtain ⟨f, hs, hin, hnl, k1, k0⟩ := KQ.out.1.heard hm
                  have FO : Hid f.Ok := SO.out.wok f hin
                  have K1 : Hid (f.c ≠ 0 → ∃ y, R[t]? = some y ∧ y.by = f.by ∧ Kw a0 i0 (S.tick 549755813888) R (t + 1) 549755813888 f.r 549755813888) := k1
                  have K0 : Hid (f.c = 0 → Kw a0 i0 (S.tick 549755813888) R t 549755813888 f.r 549755813888) := k0
                  rw [hm, hs] at TK
                  have RD := fun W => f.read FO.out a0 (by have := SO.out.a0; have := KQ.out.1.hA; omega) (by have := SO.out.a1; have := KQ.out.1.hA; omega) W
                  have NL : Hid (¬ (0 ≤ last ∧ 549755813888 - last < i0)) := hnl
                  have LT : Hid (last = -1 ∨ 0 ≤ last ∧ last ≤ 549755813888 ∧ 549755813888 ≤ 1099511627776) := by have h1 := KQ.out.1.lt; have h2 := KQ.out.1.n1; show _ ∨ _; omega
                  clear TQ hm k1 k0 hs hin hnl
                  go_wp2_with fail
                  refine TK.mono ?_
                  rintro e wt ⟨rfl, ET⟩
                  have E1 : Hid (Kst w (wt.alloc (.cells (f.A a0) 40)) p m (S.tick 549755813888) R (.slice ra n rc)) := ET.next (by repeat (first | exact Below.refl _ _ | apply Below.drew | apply Below.al))
                  clear TK ET
                  go_wp2_with fail
                  refine (RD _).mono ?_
                  rintro e wq ⟨rfl, bq⟩
                  have E2 : Hid (Kst w (wq.alloc (.cells #[.int .u8 f.i0, .int .u8 f.i1, .int .u8 f.i2, .int .u8 f.i3, .int .u8 f.i4] 33)) p m (S.tick 549755813888) R (.slice ra n rc)) := (E1.out.next bq).next (by repeat (first | exact Below.refl _ _ | apply Below.drew | apply Below.al))
                  clear bq RD E1
                  obtain ⟨y, hy⟩ : ∃ y, y = wq.alloc (.cells #[.int .u8 f.i0, .int .u8 f.i1, .int .u8 f.i2, .int .u8 f.i3, .int .u8 f.i4] 33) := ⟨_, rfl⟩
                  obtain ⟨B5, hB5⟩ : ∃ B5, B5 = wq.heap.size := ⟨_, rfl⟩
                  have FB : y.heap[B5]? = some (.cells #[.int .u8 f.i0, .int .u8 f.i1, .int .u8 f.i2, .int .u8 f.i3, .int .u8 f.i4] 33 (0, 0)) := by rw [hy, hB5]; exact at11 _ _ _ rfl
                  rw [← hy] at E2
                  have e0 : y.cell? ⟨B5, 0, none⟩ = some (.int .u8 f.i0) := by rw [cell_of_row y _ 0 _ _ _ FB]; rfl
                  have e1 : y.cell? ⟨B5, 1, none⟩ = some (.int .u8 f.i1) := by rw [cell_of_row y _ 1 _ _ _ FB]; rfl
                  have e2 : y.cell? ⟨B5, 2, none⟩ = some (.int .u8 f.i2) := by rw [cell_of_row y _ 2 _ _ _ FB]; rfl
                  have e3 : y.cell? ⟨B5, 3, none⟩ = some (.int .u8 f.i3) := by rw [cell_of_row y _ 3 _ _ _ FB]; rfl
                  have e4 : y.cell? ⟨B5, 4, none⟩ = some (.int .u8 f.i4) := by rw [cell_of_row y _ 4 _ _ _ FB]; rfl
                  have LB := lt_of_heap FB
                  clear FB
                  have HY : Hid (y = wq.alloc (.cells #[.int .u8 f.i0, .int .u8 f.i1, .int .u8 f.i2, .int .u8 f.i3, .int .u8 f.i4] 33) ∧ B5 = wq.heap.size) := ⟨hy, hB5⟩
                  clear hy hB5
                  by_cases h0 : 0 ≤ last
                  · have hge : ¬ 549755813888 - last < i0 := fun hq => NL.out ⟨h0, hq⟩
                    have wd : IntKind.i64.wrap (549755813888 - last) = 549755813888 - last := w64 _ (by have := LT.out; omega) (by have := LT.out; omega)
                    by_cases hc : f.c = 0
                    · have FIN : Hid _ := And.intro E2.out (And.intro (K0.out hc) (Nat.le_succ_of_le KQ.out.2))
                      go_wp2_with fail
                      rw [← HY.out.1]
                      exact ⟨⟨i + 1, by omega, by go_num, t, by go_num, 549755813888, f.r, 549755813888, rfl, rfl, rfl, _, R, FIN.out⟩, by simp [intOf]; omega⟩
                    · obtain ⟨g, hg, hby, kn⟩ := K1.out hc
                      have KN : Hid (Kw a0 i0 (S.tick 549755813888) R (t + 1) 549755813888 f.r 549755813888) := kn
                      have htn : t < n := by rw [hn.out]; exact (List.getElem?_eq_some_iff.1 hg).1
                      have hrow : Own y 35 9 (.slice ra n rc) n (opL R) := by have z := E2.out.row; rw [← hn.out] at z; exact z
                      obtain ⟨g5, o5, c5, e5, hR5⟩ := hrow.pos (by omega)
                      cases e5
                      simp only [Opx.by, Wt.by, List.cons.injEq, and_true] at hby
                      obtain ⟨b0, b1, b2, b3, b4, b5⟩ := hby
                      have x1 : y.cell? ⟨g5, o5 + t * 9 + 1, none⟩ = some (.int .u16 f.c) := by rw [Nat.add_assoc, ← b0]; exact hR5.cell _ _ (opL_at R t g hg 1 _ rfl)
                      have x3 : y.cell? ⟨g5, o5 + t * 9 + 3, none⟩ = some (.int .u8 f.i0) := by rw [Nat.add_assoc, ← b1]; exact hR5.cell _ _ (opL_at R t g hg 3 _ rfl)
                      have x4 : y.cell? ⟨g5, o5 + t * 9 + 4, none⟩ = some (.int .u8 f.i1) := by rw [Nat.add_assoc, ← b2]; exact hR5.cell _ _ (opL_at R t g hg 4 _ rfl)
                      have x5 : y.cell? ⟨g5, o5 + t * 9 + 5, none⟩ = some (.int .u8 f.i2) := by rw [Nat.add_assoc, ← b3]; exact hR5.cell _ _ (opL_at R t g hg 5 _ rfl)
                      have x6 : y.cell? ⟨g5, o5 + t * 9 + 6, none⟩ = some (.int .u8 f.i3) := by rw [Nat.add_assoc, ← b4]; exact hR5.cell _ _ (opL_at R t g hg 6 _ rfl)
                      have x7 : y.cell? ⟨g5, o5 + t * 9 + 7, none⟩ = some (.int .u8 f.i4) := by rw [Nat.add_assoc, ← b5]; exact hR5.cell _ _ (opL_at R t g hg 7 _ rfl)
                      have NQ : ∀ W, (binOp .neq 33 (arr5 f.i0 f.i1 f.i2 f.i3 f.i4) (arr5 f.i0 f.i1 f.i2 f.i3 f.i4)).run Try.prog W = .ok (.bool false) W := fun W => neq5 W _ _ _ _ _
                      have tn1 : ¬ (n : Int) ≤ (t : Int) := by omega
                      have tn2 : (t : Int) < (n : Int) := by omega
                      have wt1 : IntKind.i64.wrap ((t : Int) + 1) = ((t + 1 : Nat) : Int) := by rw [IntKind.wrap_i64]; have := KQ.out.2; have := hn.out; omega
                      clear hR5 hrow b0 b1 b2 b3 b4 b5 kn hg
                      go_wp2_with fail
                      rw [← HY.out.1, ← HY.out.2]
                      go_wp2_with fail
                      skip
                      go_quiet (fail)
                      go_wp2_with fail
                      exact ⟨⟨i + 1, by omega, by go_num, t + 1, by go_num, 549755813888, f.r, 549755813888, rfl, rfl, rfl, _, R, And.intro (E2.out.next (below_drewN (Below.refl _ _) _)) (And.intro KN.out (Nat.le_succ_of_le KQ.out.2))⟩, by simp [intOf]; omega⟩
                  · by_cases hc : f.c = 0
                    · have FIN : Hid _ := And.intro E2.out (And.intro (K0.out hc) (Nat.le_succ_of_le KQ.out.2))
                      go_wp2_with fail
                      rw [← HY.out.1]
                      exact ⟨⟨i + 1, by omega, by go_num, t, by go_num, 549755813888, f.r, 549755813888, rfl, rfl, rfl, _, R, FIN.out⟩, by simp [intOf]; omega⟩
                    · obtain ⟨g, hg, hby, kn⟩ := K1.out hc
                      have KN : Hid (Kw a0 i0 (S.tick 549755813888) R (t + 1) 549755813888 f.r 549755813888) := kn
                      have htn : t < n := by rw [hn.out]; exact (List.getElem?_eq_some_iff.1 hg).1
                      have hrow : Own y 35 9 (.slice ra n rc) n (opL R) := by have z := E2.out.row; rw [← hn.out] at z; exact z
                      obtain ⟨g5, o5, c5, e5, hR5⟩ := hrow.pos (by omega)
                      cases e5
                      simp only [Opx.by, Wt.by, List.cons.injEq, and_true] at hby
                      obtain ⟨b0, b1, b2, b3, b4, b5⟩ := hby
                      have x1 : y.cell? ⟨g5, o5 + t * 9 + 1, none⟩ = some (.int .u16 f.c) := by rw [Nat.add_assoc, ← b0]; exact hR5.cell _ _ (opL_at R t g hg 1 _ rfl)
                      have x3 : y.cell? ⟨g5, o5 + t * 9 + 3, none⟩ = some (.int .u8 f.i0) := by rw [Nat.add_assoc, ← b1]; exact hR5.cell _ _ (opL_at R t g hg 3 _ rfl)
                      have x4 : y.cell? ⟨g5, o5 + t * 9 + 4, none⟩ = some (.int .u8 f.i1) := by rw [Nat.add_assoc, ← b2]; exact hR5.cell _ _ (opL_at R t g hg 4 _ rfl)
                      have x5 : y.cell? ⟨g5, o5 + t * 9 + 5, none⟩ = some (.int .u8 f.i2) := by rw [Nat.add_assoc, ← b3]; exact hR5.cell _ _ (opL_at R t g hg 5 _ rfl)
                      have x6 : y.cell? ⟨g5, o5 + t * 9 + 6, none⟩ = some (.int .u8 f.i3) := by rw [Nat.add_assoc, ← b4]; exact hR5.cell _ _ (opL_at R t g hg 6 _ rfl)
                      have x7 : y.cell? ⟨g5, o5 + t * 9 + 7, none⟩ = some (.int .u8 f.i4) := by rw [Nat.add_assoc, ← b5]; exact hR5.cell _ _ (opL_at R t g hg 7 _ rfl)
                      have NQ : ∀ W, (binOp .neq 33 (arr5 f.i0 f.i1 f.i2 f.i3 f.i4) (arr5 f.i0 f.i1 f.i2 f.i3 f.i4)).run Try.prog W = .ok (.bool false) W := fun W => neq5 W _ _ _ _ _
                      have tn1 : ¬ (n : Int) ≤ (t : Int) := by omega
                      have tn2 : (t : Int) < (n : Int) := by omega
                      have wt1 : IntKind.i64.wrap ((t : Int) + 1) = ((t + 1 : Nat) : Int) := by rw [IntKind.wrap_i64]; have := KQ.out.2; have := hn.out; omega
                      clear hR5 hrow b0 b1 b2 b3 b4 b5 kn hg
                      go_wp2_with fail
                      rw [← HY.out.1, ← HY.out.2]
                      go_wp2_with fail
                      skip
                      go_quiet (fail)
                      go_wp2_with fail
                      exact ⟨⟨i + 1, by omega, by go_num, t + 1, by go_num, 549755813888, f.r, 549755813888, rfl, rfl, rfl, _, R, And.intro (E2.out.next (below_drewN (Below.refl _ _) _)) (And.intro KN.out (Nat.le_succ_of_le KQ.out.2))⟩, by simp [intOf]; omega⟩
            · have TQ : Hid (Kst w wr p m S R (.slice ra n rc) ∧ Kw a0 i0 S R t last reg (now) ∧ R.length ≤ i) := ⟨TR.out.1, TR.out.2.1.time (by have := N0.out; omega) (by have := N0.out; omega), TR.out.2.2⟩
              clear TR
              as_aux_lemma =>
                go_wp2_with fail
                clear c0 c1 c2 c3 c4 c5 c6 c7 c8
                have TK := TQ.out.1.call fun v hv => tick_any hv now
                have KQ : Hid (Kw a0 i0 S R t last reg now ∧ R.length ≤ i) := TQ.out.2
                have SO : Hid S.Ok := TQ.out.1.ez.ok
                cases hm : S.may now with
                | false =>
                  rw [hm, ES.said_no hm] at TK
                  have KN : Hid (Kw a0 i0 (S.tick now) R t last reg now) := KQ.out.1.quiet hm
                  clear TQ hm
                  go_wp2_with fail
                  refine TK.mono ?_
                  rintro e wt ⟨rfl, ET⟩
                  have F1 : Hid (Kst w (wt.alloc (.cells (frC 0 0 0 0 0 0 0 0 0 0 false) 40)) p m (S.tick now) R (.slice ra n rc)) := ET.next (by repeat (first | exact Below.refl _ _ | apply Below.drew | apply Below.al))
                  clear TK ET
                  have FIN : Hid _ := And.intro F1.out (And.intro KN.out (Nat.le_succ_of_le KQ.out.2))
                  go_wp2_with fail
                  exact ⟨⟨i + 1, by omega, by go_num, t, by go_num, last, reg, now, rfl, rfl, rfl, _, R, FIN.out⟩, by simp [intOf]; omega⟩
                | true =>
                  obtain ⟨f, hs, hin, hnl, k1, k0⟩ := KQ.out.1.heard hm
                  have FO : Hid f.Ok := SO.out.wok f hin
                  have K1 : Hid (f.c ≠ 0 → ∃ y, R[t]? = some y ∧ y.by = f.by ∧ Kw a0 i0 (S.tick now) R (t + 1) now f.r now) := k1
                  have K0 : Hid (f.c = 0 → Kw a0 i0 (S.tick now) R t now f.r now) := k0
                  rw [hm, hs] at TK
                  have RD := fun W => f.read FO.out a0 (by have := SO.out.a0; have := KQ.out.1.hA; omega) (by have := SO.out.a1; have := KQ.out.1.hA; omega) W
                  have NL : Hid (¬ (0 ≤ last ∧ now - last < i0)) := hnl
                  have LT : Hid (last = -1 ∨ 0 ≤ last ∧ last ≤ now ∧ now ≤ 1099511627776) := by have h1 := KQ.out.1.lt; have h2 := KQ.out.1.n1; show _ ∨ _; omega
                  clear TQ hm k1 k0 hs hin hnl
                  go_wp2_with fail
                  refine TK.mono ?_
                  rintro e wt ⟨rfl, ET⟩
                  have E1 : Hid (Kst w (wt.alloc (.cells (f.A a0) 40)) p m (S.tick now) R (.slice ra n rc)) := ET.next (by repeat (first | exact Below.refl _ _ | apply Below.drew | apply Below.al))
                  clear TK ET
                  go_wp2_with fail
                  refine (RD _).mono ?_
                  rintro e wq ⟨rfl, bq⟩
                  have E2 : Hid (Kst w (wq.alloc (.cells #[.int .u8 f.i0, .int .u8 f.i1, .int .u8 f.i2, .int .u8 f.i3, .int .u8 f.i4] 33)) p m (S.tick now) R (.slice ra n rc)) := (E1.out.next bq).next (by repeat (first | exact Below.refl _ _ | apply Below.drew | apply Below.al))
                  clear bq RD E1
                  obtain ⟨y, hy⟩ : ∃ y, y = wq.alloc (.cells #[.int .u8 f.i0, .int .u8 f.i1, .int .u8 f.i2, .int .u8 f.i3, .int .u8 f.i4] 33) := ⟨_, rfl⟩
                  obtain ⟨B5, hB5⟩ : ∃ B5, B5 = wq.heap.size := ⟨_, rfl⟩
                  have FB : y.heap[B5]? = some (.cells #[.int .u8 f.i0, .int .u8 f.i1, .int .u8 f.i2, .int .u8 f.i3, .int .u8 f.i4] 33 (0, 0)) := by rw [hy, hB5]; exact at11 _ _ _ rfl
                  rw [← hy] at E2
                  have e0 : y.cell? ⟨B5, 0, none⟩ = some (.int .u8 f.i0) := by rw [cell_of_row y _ 0 _ _ _ FB]; rfl
                  have e1 : y.cell? ⟨B5, 1, none⟩ = some (.int .u8 f.i1) := by rw [cell_of_row y _ 1 _ _ _ FB]; rfl
                  have e2 : y.cell? ⟨B5, 2, none⟩ = some (.int .u8 f.i2) := by rw [cell_of_row y _ 2 _ _ _ FB]; rfl
                  have e3 : y.cell? ⟨B5, 3, none⟩ = some (.int .u8 f.i3) := by rw [cell_of_row y _ 3 _ _ _ FB]; rfl
                  have e4 : y.cell? ⟨B5, 4, none⟩ = some (.int .u8 f.i4) := by rw [cell_of_row y _ 4 _ _ _ FB]; rfl
                  have LB := lt_of_heap FB
                  clear FB
                  have HY : Hid (y = wq.alloc (.cells #[.int .u8 f.i0, .int .u8 f.i1, .int .u8 f.i2, .int .u8 f.i3, .int .u8 f.i4] 33) ∧ B5 = wq.heap.size) := ⟨hy, hB5⟩
                  clear hy hB5
                  by_cases h0 : 0 ≤ last
                  · have hge : ¬ now - last < i0 := fun hq => NL.out ⟨h0, hq⟩
                    have wd : IntKind.i64.wrap (now - last) = now - last := w64 _ (by have := LT.out; omega) (by have := LT.out; omega)
                    by_cases hc : f.c = 0
                    · have FIN : Hid _ := And.intro E2.out (And.intro (K0.out hc) (Nat.le_succ_of_le KQ.out.2))
                      go_wp2_with fail
                      rw [← HY.out.1]
                      exact ⟨⟨i + 1, by omega, by go_num, t, by go_num, now, f.r, now, rfl, rfl, rfl, _, R, FIN.out⟩, by simp [intOf]; omega⟩
                    · obtain ⟨g, hg, hby, kn⟩ := K1.out hc
                      have KN : Hid (Kw a0 i0 (S.tick now) R (t + 1) now f.r now) := kn
                      have htn : t < n := by rw [hn.out]; exact (List.getElem?_eq_some_iff.1 hg).1
                      have hrow : Own y 35 9 (.slice ra n rc) n (opL R) := by have z := E2.out.row; rw [← hn.out] at z; exact z
                      obtain ⟨g5, o5, c5, e5, hR5⟩ := hrow.pos (by omega)
                      cases e5
                      simp only [Opx.by, Wt.by, List.cons.injEq, and_true] at hby
                      obtain ⟨b0, b1, b2, b3, b4, b5⟩ := hby
                      have x1 : y.cell? ⟨g5, o5 + t * 9 + 1, none⟩ = some (.int .u16 f.c) := by rw [Nat.add_assoc, ← b0]; exact hR5.cell _ _ (opL_at R t g hg 1 _ rfl)
                      have x3 : y.cell? ⟨g5, o5 + t * 9 + 3, none⟩ = some (.int .u8 f.i0) := by rw [Nat.add_assoc, ← b1]; exact hR5.cell _ _ (opL_at R t g hg 3 _ rfl)
                      have x4 : y.cell? ⟨g5, o5 + t * 9 + 4, none⟩ = some (.int .u8 f.i1) := by rw [Nat.add_assoc, ← b2]; exact hR5.cell _ _ (opL_at R t g hg 4 _ rfl)
                      have x5 : y.cell? ⟨g5, o5 + t * 9 + 5, none⟩ = some (.int .u8 f.i2) := by rw [Nat.add_assoc, ← b3]; exact hR5.cell _ _ (opL_at R t g hg 5 _ rfl)
                      have x6 : y.cell? ⟨g5, o5 + t * 9 + 6, none⟩ = some (.int .u8 f.i3) := by rw [Nat.add_assoc, ← b4]; exact hR5.cell _ _ (opL_at R t g hg 6 _ rfl)
                      have x7 : y.cell? ⟨g5, o5 + t * 9 + 7, none⟩ = some (.int .u8 f.i4) := by rw [Nat.add_assoc, ← b5]; exact hR5.cell _ _ (opL_at R t g hg 7 _ rfl)
                      have NQ : ∀ W, (binOp .neq 33 (arr5 f.i0 f.i1 f.i2 f.i3 f.i4) (arr5 f.i0 f.i1 f.i2 f.i3 f.i4)).run Try.prog W = .ok (.bool false) W := fun W => neq5 W _ _ _ _ _
                      have tn1 : ¬ (n : Int) ≤ (t : Int) := by omega
                      have tn2 : (t : Int) < (n : Int) := by omega
                      have wt1 : IntKind.i64.wrap ((t : Int) + 1) = ((t + 1 : Nat) : Int) := by rw [IntKind.wrap_i64]; have := KQ.out.2; have := hn.out; omega
                      clear hR5 hrow b0 b1 b2 b3 b4 b5 kn hg
                      go_wp2_with fail
                      rw [← HY.out.1, ← HY.out.2]
                      go_wp2_with fail
                      skip
                      go_quiet (fail)
                      go_wp2_with fail
                      exact ⟨⟨i + 1, by omega, by go_num, t + 1, by go_num, now, f.r, now, rfl, rfl, rfl, _, R, And.intro (E2.out.next (below_drewN (Below.refl _ _) _)) (And.intro KN.out (Nat.le_succ_of_le KQ.out.2))⟩, by simp [intOf]; omega⟩
                  · by_cases hc : f.c = 0
                    · have FIN : Hid _ := And.intro E2.out (And.intro (K0.out hc) (Nat.le_succ_of_le KQ.out.2))
                      go_wp2_with fail
                      rw [← HY.out.1]
                      exact ⟨⟨i + 1, by omega, by go_num, t, by go_num, now, f.r, now, rfl, rfl, rfl, _, R, FIN.out⟩, by simp [intOf]; omega⟩
                    · obtain ⟨g, hg, hby, kn⟩ := K1.out hc
                      have KN : Hid (Kw a0 i0 (S.tick now) R (t + 1) now f.r now) := kn
                      have htn : t < n := by rw [hn.out]; exact (List.getElem?_eq_some_iff.1 hg).1
                      have hrow : Own y 35 9 (.slice ra n rc) n (opL R) := by have z := E2.out.row; rw [← hn.out] at z; exact z
                      obtain ⟨g5, o5, c5, e5, hR5⟩ := hrow.pos (by omega)
                      cases e5
                      simp only [Opx.by, Wt.by, List.cons.injEq, and_true] at hby
                      obtain ⟨b0, b1, b2, b3, b4, b5⟩ := hby
                      have x1 : y.cell? ⟨g5, o5 + t * 9 + 1, none⟩ = some (.int .u16 f.c) := by rw [Nat.add_assoc, ← b0]; exact hR5.cell _ _ (opL_at R t g hg 1 _ rfl)
                      have x3 : y.cell? ⟨g5, o5 + t * 9 + 3, none⟩ = some (.int .u8 f.i0) := by rw [Nat.add_assoc, ← b1]; exact hR5.cell _ _ (opL_at R t g hg 3 _ rfl)
                      have x4 : y.cell? ⟨g5, o5 + t * 9 + 4, none⟩ = some (.int .u8 f.i1) := by rw [Nat.add_assoc, ← b2]; exact hR5.cell _ _ (opL_at R t g hg 4 _ rfl)
                      have x5 : y.cell? ⟨g5, o5 + t * 9 + 5, none⟩ = some (.int .u8 f.i2) := by rw [Nat.add_assoc, ← b3]; exact hR5.cell _ _ (opL_at R t g hg 5 _ rfl)
                      have x6 : y.cell? ⟨g5, o5 + t * 9 + 6, none⟩ = some (.int .u8 f.i3) := by rw [Nat.add_assoc, ← b4]; exact hR5.cell _ _ (opL_at R t g hg 6 _ rfl)
                      have x7 : y.cell? ⟨g5, o5 + t * 9 + 7, none⟩ = some (.int .u8 f.i4) := by rw [Nat.add_assoc, ← b5]; exact hR5.cell _ _ (opL_at R t g hg 7 _ rfl)
                      have NQ : ∀ W, (binOp .neq 33 (arr5 f.i0 f.i1 f.i2 f.i3 f.i4) (arr5 f.i0 f.i1 f.i2 f.i3 f.i4)).run Try.prog W = .ok (.bool false) W := fun W => neq5 W _ _ _ _ _
                      have tn1 : ¬ (n : Int) ≤ (t : Int) := by omega
                      have tn2 : (t : Int) < (n : Int) := by omega
                      have wt1 : IntKind.i64.wrap ((t : Int) + 1) = ((t + 1 : Nat) : Int) := by rw [IntKind.wrap_i64]; have := KQ.out.2; have := hn.out; omega
                      clear hR5 hrow b0 b1 b2 b3 b4 b5 kn hg
                      go_wp2_with fail
                      rw [← HY.out.1, ← HY.out.2]
                      go_wp2_with fail
                      skip
                      go_quiet (fail)
                      go_wp2_with fail
                      exact ⟨⟨i + 1, by omega, by go_num, t + 1, by go_num, now, f.r, now, rfl, rfl, rfl, _, R, And.intro (E2.out.next (below_drewN (Below.refl _ _) _)) (And.intro KN.out (Nat.le_succ_of_le KQ.out.2))⟩, by simp [intOf]; omega⟩
          · by_cases hc2 : now < x.now
            · have TQ : Hid (Kst w wr p m S R (.slice ra n rc) ∧ Kw a0 i0 S R t last reg (x.now) ∧ R.length ≤ i) := ⟨TR.out.1, TR.out.2.1.time (by have := N0.out; omega) (by have := N0.out; omega), TR.out.2.2⟩
              clear TR
              as_aux_lemma =>
                go_wp2_with fail
                clear c0 c1 c2 c3 c4 c5 c6 c7 c8
                have TK := TQ.out.1.call fun v hv => tick_any hv x.now
                have KQ : Hid (Kw a0 i0 S R t last reg x.now ∧ R.length ≤ i) := TQ.out.2
                have SO : Hid S.Ok := TQ.out.1.ez.ok
                cases hm : S.may x.now with
                | false =>
                  rw [hm, ES.said_no hm] at TK
                  have KN : Hid (Kw a0 i0 (S.tick x.now) R t last reg x.now) := KQ.out.1.quiet hm
                  clear TQ hm
                  go_wp2_with fail
                  refine TK.mono ?_
                  rintro e wt ⟨rfl, ET⟩
                  have F1 : Hid (Kst w (wt.alloc (.cells (frC 0 0 0 0 0 0 0 0 0 0 false) 40)) p m (S.tick x.now) R (.slice ra n rc)) := ET.next (by repeat (first | exact Below.refl _ _ | apply Below.drew | apply Below.al))
                  clear TK ET
                  have FIN : Hid _ := And.intro F1.out (And.intro KN.out (Nat.le_succ_of_le KQ.out.2))
                  go_wp2_with fail
                  exact ⟨⟨i + 1, by omega, by go_num, t, by go_num, last, reg, x.now, rfl, rfl, rfl, _, R, FIN.out⟩, by simp [intOf]; omega⟩
                | true =>
                  obtain ⟨f, hs, hin, hnl, k1, k0⟩ := KQ.out.1.heard hm
                  have FO : Hid f.Ok := SO.out.wok f hin
                  have K1 : Hid (f.c ≠ 0 → ∃ y, R[t]? = some y ∧ y.by = f.by ∧ Kw a0 i0 (S.tick x.now) R (t + 1) x.now f.r x.now) := k1
                  have K0 : Hid (f.c = 0 → Kw a0 i0 (S.tick x.now) R t x.now f.r x.now) := k0
                  rw [hm, hs] at TK
                  have RD := fun W => f.read FO.out a0 (by have := SO.out.a0; have := KQ.out.1.hA; omega) (by have := SO.out.a1; have := KQ.out.1.hA; omega) W
                  have NL : Hid (¬ (0 ≤ last ∧ x.now - last < i0)) := hnl
                  have LT : Hid (last = -1 ∨ 0 ≤ last ∧ last ≤ x.now ∧ x.now ≤ 1099511627776) := by have h1 := KQ.out.1.lt; have h2 := KQ.out.1.n1; show _ ∨ _; omega
                  clear TQ hm k1 k0 hs hin hnl
                  go_wp2_with fail
                  refine TK.mono ?_
                  rintro e wt ⟨rfl, ET⟩
                  have E1 : Hid (Kst w (wt.alloc (.cells (f.A a0) 40)) p m (S.tick x.now) R (.slice ra n rc)) := ET.next (by repeat (first | exact Below.refl _ _ | apply Below.drew | apply Below.al))
                  clear TK ET
                  go_wp2_with fail
                  refine (RD _).mono ?_
                  rintro e wq ⟨rfl, bq⟩
                  have E2 : Hid (Kst w (wq.alloc (.cells #[.int .u8 f.i0, .int .u8 f.i1, .int .u8 f.i2, .int .u8 f.i3, .int .u8 f.i4] 33)) p m (S.tick x.now) R (.slice ra n rc)) := (E1.out.next bq).next (by repeat (first | exact Below.refl _ _ | apply Below.drew | apply Below.al))
                  clear bq RD E1
                  obtain ⟨y, hy⟩ : ∃ y, y = wq.alloc (.cells #[.int .u8 f.i0, .int .u8 f.i1, .int .u8 f.i2, .int .u8 f.i3, .int .u8 f.i4] 33) := ⟨_, rfl⟩
                  obtain ⟨B5, hB5⟩ : ∃ B5, B5 = wq.heap.size := ⟨_, rfl⟩
                  have FB : y.heap[B5]? = some (.cells #[.int .u8 f.i0, .int .u8 f.i1, .int .u8 f.i2, .int .u8 f.i3, .int .u8 f.i4] 33 (0, 0)) := by rw [hy, hB5]; exact at11 _ _ _ rfl
                  rw [← hy] at E2
                  have e0 : y.cell? ⟨B5, 0, none⟩ = some (.int .u8 f.i0) := by rw [cell_of_row y _ 0 _ _ _ FB]; rfl
                  have e1 : y.cell? ⟨B5, 1, none⟩ = some (.int .u8 f.i1) := by rw [cell_of_row y _ 1 _ _ _ FB]; rfl
                  have e2 : y.cell? ⟨B5, 2, none⟩ = some (.int .u8 f.i2) := by rw [cell_of_row y _ 2 _ _ _ FB]; rfl
                  have e3 : y.cell? ⟨B5, 3, none⟩ = some (.int .u8 f.i3) := by rw [cell_of_row y _ 3 _ _ _ FB]; rfl
                  have e4 : y.cell? ⟨B5, 4, none⟩ = some (.int .u8 f.i4) := by rw [cell_of_row y _ 4 _ _ _ FB]; rfl
                  have LB := lt_of_heap FB
                  clear FB
                  have HY : Hid (y = wq.alloc (.cells #[.int .u8 f.i0, .int .u8 f.i1, .int .u8 f.i2, .int .u8 f.i3, .int .u8 f.i4] 33) ∧ B5 = wq.heap.size) := ⟨hy, hB5⟩
                  clear hy hB5
                  by_cases h0 : 0 ≤ last
                  · have hge : ¬ x.now - last < i0 := fun hq => NL.out ⟨h0, hq⟩
                    have wd : IntKind.i64.wrap (x.now - last) = x.now - last := w64 _ (by have := LT.out; omega) (by have := LT.out; omega)
                    by_cases hc : f.c = 0
                    · have FIN : Hid _ := And.intro E2.out (And.intro (K0.out hc) (Nat.le_succ_of_le KQ.out.2))
                      go_wp2_with fail
                      rw [← HY.out.1]
                      exact ⟨⟨i + 1, by omega, by go_num, t, by go_num, x.now, f.r, x.now, rfl, rfl, rfl, _, R, FIN.out⟩, by simp [intOf]; omega⟩
                    · obtain ⟨g, hg, hby, kn⟩ := K1.out hc
                      have KN : Hid (Kw a0 i0 (S.tick x.now) R (t + 1) x.now f.r x.now) := kn
                      have htn : t < n := by rw [hn.out]; exact (List.getElem?_eq_some_iff.1 hg).1
                      have hrow : Own y 35 9 (.slice ra n rc) n (opL R) := by have z := E2.out.row; rw [← hn.out] at z; exact z
                      obtain ⟨g5, o5, c5, e5, hR5⟩ := hrow.pos (by omega)
                      cases e5
                      simp only [Opx.by, Wt.by, List.cons.injEq, and_true] at hby
                      obtain ⟨b0, b1, b2, b3, b4, b5⟩ := hby
                      have x1 : y.cell? ⟨g5, o5 + t * 9 + 1, none⟩ = some (.int .u16 f.c) := by rw [Nat.add_assoc, ← b0]; exact hR5.cell _ _ (opL_at R t g hg 1 _ rfl)
                      have x3 : y.cell? ⟨g5, o5 + t * 9 + 3, none⟩ = some (.int .u8 f.i0) := by rw [Nat.add_assoc, ← b1]; exact hR5.cell _ _ (opL_at R t g hg 3 _ rfl)
                      have x4 : y.cell? ⟨g5, o5 + t * 9 + 4, none⟩ = some (.int .u8 f.i1) := by rw [Nat.add_assoc, ← b2]; exact hR5.cell _ _ (opL_at R t g hg 4 _ rfl)
                      have x5 : y.cell? ⟨g5, o5 + t * 9 + 5, none⟩ = some (.int .u8 f.i2) := by rw [Nat.add_assoc, ← b3]; exact hR5.cell _ _ (opL_at R t g hg 5 _ rfl)
                      have x6 : y.cell? ⟨g5, o5 + t * 9 + 6, none⟩ = some (.int .u8 f.i3) := by rw [Nat.add_assoc, ← b4]; exact hR5.cell _ _ (opL_at R t g hg 6 _ rfl)
                      have x7 : y.cell? ⟨g5, o5 + t * 9 + 7, none⟩ = some (.int .u8 f.i4) := by rw [Nat.add_assoc, ← b5]; exact hR5.cell _ _ (opL_at R t g hg 7 _ rfl)
                      have NQ : ∀ W, (binOp .neq 33 (arr5 f.i0 f.i1 f.i2 f.i3 f.i4) (arr5 f.i0 f.i1 f.i2 f.i3 f.i4)).run Try.prog W = .ok (.bool false) W := fun W => neq5 W _ _ _ _ _
                      have tn1 : ¬ (n : Int) ≤ (t : Int) := by omega
                      have tn2 : (t : Int) < (n : Int) := by omega
                      have wt1 : IntKind.i64.wrap ((t : Int) + 1) = ((t + 1 : Nat) : Int) := by rw [IntKind.wrap_i64]; have := KQ.out.2; have := hn.out; omega
                      clear hR5 hrow b0 b1 b2 b3 b4 b5 kn hg
                      go_wp2_with fail
                      rw [← HY.out.1, ← HY.out.2]
                      go_wp2_with fail
                      skip
                      go_quiet (fail)
                      go_wp2_with fail
                      exact ⟨⟨i + 1, by omega, by go_num, t + 1, by go_num, x.now, f.r, x.now, rfl, rfl, rfl, _, R, And.intro (E2.out.next (below_drewN (Below.refl _ _) _)) (And.intro KN.out (Nat.le_succ_of_le KQ.out.2))⟩, by simp [intOf]; omega⟩
                  · by_cases hc : f.c = 0
                    · have FIN : Hid _ := And.intro E2.out (And.intro (K0.out hc) (Nat.le_succ_of_le KQ.out.2))
                      go_wp2_with fail
                      rw [← HY.out.1]
                      exact ⟨⟨i + 1, by omega, by go_num, t, by go_num, x.now, f.r, x.now, rfl, rfl, rfl, _, R, FIN.out⟩, by simp [intOf]; omega⟩
                    · obtain ⟨g, hg, hby, kn⟩ := K1.out hc
                      have KN : Hid (Kw a0 i0 (S.tick x.now) R (t + 1) x.now f.r x.now) := kn
                      have htn : t < n := by rw [hn.out]; exact (List.getElem?_eq_some_iff.1 hg).1
                      have hrow : Own y 35 9 (.slice ra n rc) n (opL R) := by have z := E2.out.row; rw [← hn.out] at z; exact z
                      obtain ⟨g5, o5, c5, e5, hR5⟩ := hrow.pos (by omega)
                      cases e5
                      simp only [Opx.by, Wt.by, List.cons.injEq, and_true] at hby
                      obtain ⟨b0, b1, b2, b3, b4, b5⟩ := hby
                      have x1 : y.cell? ⟨g5, o5 + t * 9 + 1, none⟩ = some (.int .u16 f.c) := by rw [Nat.add_assoc, ← b0]; exact hR5.cell _ _ (opL_at R t g hg 1 _ rfl)
                      have x3 : y.cell? ⟨g5, o5 + t * 9 + 3, none⟩ = some (.int .u8 f.i0) := by rw [Nat.add_assoc, ← b1]; exact hR5.cell _ _ (opL_at R t g hg 3 _ rfl)
                      have x4 : y.cell? ⟨g5, o5 + t * 9 + 4, none⟩ = some (.int .u8 f.i1) := by rw [Nat.add_assoc, ← b2]; exact hR5.cell _ _ (opL_at R t g hg 4 _ rfl)
                      have x5 : y.cell? ⟨g5, o5 + t * 9 + 5, none⟩ = some (.int .u8 f.i2) := by rw [Nat.add_assoc, ← b3]; exact hR5.cell _ _ (opL_at R t g hg 5 _ rfl)
                      have x6 : y.cell? ⟨g5, o5 + t * 9 + 6, none⟩ = some (.int .u8 f.i3) := by rw [Nat.add_assoc, ← b4]; exact hR5.cell _ _ (opL_at R t g hg 6 _ rfl)
                      have x7 : y.cell? ⟨g5, o5 + t * 9 + 7, none⟩ = some (.int .u8 f.i4) := by rw [Nat.add_assoc, ← b5]; exact hR5.cell _ _ (opL_at R t g hg 7 _ rfl)
                      have NQ : ∀ W, (binOp .neq 33 (arr5 f.i0 f.i1 f.i2 f.i3 f.i4) (arr5 f.i0 f.i1 f.i2 f.i3 f.i4)).run Try.prog W = .ok (.bool false) W := fun W => neq5 W _ _ _ _ _
                      have tn1 : ¬ (n : Int) ≤ (t : Int) := by omega
                      have tn2 : (t : Int) < (n : Int) := by omega
                      have wt1 : IntKind.i64.wrap ((t : Int) + 1) = ((t + 1 : Nat) : Int) := by rw [IntKind.wrap_i64]; have := KQ.out.2; have := hn.out; omega
                      clear hR5 hrow b0 b1 b2 b3 b4 b5 kn hg
                      go_wp2_with fail
                      rw [← HY.out.1, ← HY.out.2]
                      go_wp2_with fail
                      skip
                      go_quiet (fail)
                      go_wp2_with fail
                      exact ⟨⟨i + 1, by omega, by go_num, t + 1, by go_num, x.now, f.r, x.now, rfl, rfl, rfl, _, R, And.intro (E2.out.next (below_drewN (Below.refl _ _) _)) (And.intro KN.out (Nat.le_succ_of_le KQ.out.2))⟩, by simp [intOf]; omega⟩
            · have TQ : Hid (Kst w wr p m S R (.slice ra n rc) ∧ Kw a0 i0 S R t last reg (now) ∧ R.length ≤ i) := ⟨TR.out.1, TR.out.2.1.time (by have := N0.out; omega) (by have := N0.out; omega), TR.out.2.2⟩
              clear TR
              as_aux_lemma =>
                go_wp2_with fail
                clear c0 c1 c2 c3 c4 c5 c6 c7 c8
                have TK := TQ.out.1.call fun v hv => tick_any hv now
                have KQ : Hid (Kw a0 i0 S R t last reg now ∧ R.length ≤ i) := TQ.out.2
                have SO : Hid S.Ok := TQ.out.1.ez.ok
                cases hm : S.may now with
                | false =>
                  rw [hm, ES.said_no hm] at TK
                  have KN : Hid (Kw a0 i0 (S.tick now) R t last reg now) := KQ.out.1.quiet hm
                  clear TQ hm
                  go_wp2_with fail
                  refine TK.mono ?_
                  rintro e wt ⟨rfl, ET⟩
                  have F1 : Hid (Kst w (wt.alloc (.cells (frC 0 0 0 0 0 0 0 0 0 0 false) 40)) p m (S.tick now) R (.slice ra n rc)) := ET.next (by repeat (first | exact Below.refl _ _ | apply Below.drew | apply Below.al))
                  clear TK ET
                  have FIN : Hid _ := And.intro F1.out (And.intro KN.out (Nat.le_succ_of_le KQ.out.2))
                  go_wp2_with fail
                  exact ⟨⟨i + 1, by omega, by go_num, t, by go_num, last, reg, now, rfl, rfl, rfl, _, R, FIN.out⟩, by simp [intOf]; omega⟩
                | true =>
                  obtain ⟨f, hs, hin, hnl, k1, k0⟩ := KQ.out.1.heard hm
                  have FO : Hid f.Ok := SO.out.wok f hin
                  have K1 : Hid (f.c ≠ 0 → ∃ y, R[t]? = some y ∧ y.by = f.by ∧ Kw a0 i0 (S.tick now) R (t + 1) now f.r now) := k1
                  have K0 : Hid (f.c = 0 → Kw a0 i0 (S.tick now) R t now f.r now) := k0
                  rw [hm, hs] at TK
                  have RD := fun W => f.read FO.out a0 (by have := SO.out.a0; have := KQ.out.1.hA; omega) (by have := SO.out.a1; have := KQ.out.1.hA; omega) W
                  have NL : Hid (¬ (0 ≤ last ∧ now - last < i0)) := hnl
                  have LT : Hid (last = -1 ∨ 0 ≤ last ∧ last ≤ now ∧ now ≤ 1099511627776) := by have h1 := KQ.out.1.lt; have h2 := KQ.out.1.n1; show _ ∨ _; omega
                  clear TQ hm k1 k0 hs hin hnl
                  go_wp2_with fail
                  refine TK.mono ?_
                  rintro e wt ⟨rfl, ET⟩
                  have E1 : Hid (Kst w (wt.alloc (.cells (f.A a0) 40)) p m (S.tick now) R (.slice ra n rc)) := ET.next (by repeat (first | exact Below.refl _ _ | apply Below.drew | apply Below.al))
                  clear TK ET
                  go_wp2_with fail
                  refine (RD _).mono ?_
                  rintro e wq ⟨rfl, bq⟩
                  have E2 : Hid (Kst w (wq.alloc (.cells #[.int .u8 f.i0, .int .u8 f.i1, .int .u8 f.i2, .int .u8 f.i3, .int .u8 f.i4] 33)) p m (S.tick now) R (.slice ra n rc)) := (E1.out.next bq).next (by repeat (first | exact Below.refl _ _ | apply Below.drew | apply Below.al))
                  clear bq RD E1
                  obtain ⟨y, hy⟩ : ∃ y, y = wq.alloc (.cells #[.int .u8 f.i0, .int .u8 f.i1, .int .u8 f.i2, .int .u8 f.i3, .int .u8 f.i4] 33) := ⟨_, rfl⟩
                  obtain ⟨B5, hB5⟩ : ∃ B5, B5 = wq.heap.size := ⟨_, rfl⟩
                  have FB : y.heap[B5]? = some (.cells #[.int .u8 f.i0, .int .u8 f.i1, .int .u8 f.i2, .int .u8 f.i3, .int .u8 f.i4] 33 (0, 0)) := by rw [hy, hB5]; exact at11 _ _ _ rfl
                  rw [← hy] at E2
                  have e0 : y.cell? ⟨B5, 0, none⟩ = some (.int .u8 f.i0) := by rw [cell_of_row y _ 0 _ _ _ FB]; rfl
                  have e1 : y.cell? ⟨B5, 1, none⟩ = some (.int .u8 f.i1) := by rw [cell_of_row y _ 1 _ _ _ FB]; rfl
                  have e2 : y.cell? ⟨B5, 2, none⟩ = some (.int .u8 f.i2) := by rw [cell_of_row y _ 2 _ _ _ FB]; rfl
                  have e3 : y.cell? ⟨B5, 3, none⟩ = some (.int .u8 f.i3) := by rw [cell_of_row y _ 3 _ _ _ FB]; rfl
                  have e4 : y.cell? ⟨B5, 4, none⟩ = some (.int .u8 f.i4) := by rw [cell_of_row y _ 4 _ _ _ FB]; rfl
                  have LB := lt_of_heap FB
                  clear FB
                  have HY : Hid (y = wq.alloc (.cells #[.int .u8 f.i0, .int .u8 f.i1, .int .u8 f.i2, .int .u8 f.i3, .int .u8 f.i4] 33) ∧ B5 = wq.heap.size) := ⟨hy, hB5⟩
                  clear hy hB5
                  by_cases h0 : 0 ≤ last
                  · have hge : ¬ now - last < i0 := fun hq => NL.out ⟨h0, hq⟩
                    have wd : IntKind.i64.wrap (now - last) = now - last := w64 _ (by have := LT.out; omega) (by have := LT.out; omega)
                    by_cases hc : f.c = 0
                    · have FIN : Hid _ := And.intro E2.out (And.intro (K0.out hc) (Nat.le_succ_of_le KQ.out.2))
                      go_wp2_with fail
                      rw [← HY.out.1]
                      exact ⟨⟨i + 1, by omega, by go_num, t, by go_num, now, f.r, now, rfl, rfl, rfl, _, R, FIN.out⟩, by simp [intOf]; omega⟩
                    · obtain ⟨g, hg, hby, kn⟩ := K1.out hc
                      have KN : Hid (Kw a0 i0 (S.tick now) R (t + 1) now f.r now) := kn
                      have htn : t < n := by rw [hn.out]; exact (List.getElem?_eq_some_iff.1 hg).1
                      have hrow : Own y 35 9 (.slice ra n rc) n (opL R) := by have z := E2.out.row; rw [← hn.out] at z; exact z
                      obtain ⟨g5, o5, c5, e5, hR5⟩ := hrow.pos (by omega)
                      cases e5
                      simp only [Opx.by, Wt.by, List.cons.injEq, and_true] at hby
                      obtain ⟨b0, b1, b2, b3, b4, b5⟩ := hby
                      have x1 : y.cell? ⟨g5, o5 + t * 9 + 1, none⟩ = some (.int .u16 f.c) := by rw [Nat.add_assoc, ← b0]; exact hR5.cell _ _ (opL_at R t g hg 1 _ rfl)
                      have x3 : y.cell? ⟨g5, o5 + t * 9 + 3, none⟩ = some (.int .u8 f.i0) := by rw [Nat.add_assoc, ← b1]; exact hR5.cell _ _ (opL_at R t g hg 3 _ rfl)
                      have x4 : y.cell? ⟨g5, o5 + t * 9 + 4, none⟩ = some (.int .u8 f.i1) := by rw [Nat.add_assoc, ← b2]; exact hR5.cell _ _ (opL_at R t g hg 4 _ rfl)
                      have x5 : y.cell? ⟨g5, o5 + t * 9 + 5, none⟩ = some (.int .u8 f.i2) := by rw [Nat.add_assoc, ← b3]; exact hR5.cell _ _ (opL_at R t g hg 5 _ rfl)
                      have x6 : y.cell? ⟨g5, o5 + t * 9 + 6, none⟩ = some (.int .u8 f.i3) := by rw [Nat.add_assoc, ← b4]; exact hR5.cell _ _ (opL_at R t g hg 6 _ rfl)
                      have x7 : y.cell? ⟨g5, o5 + t * 9 + 7, none⟩ = some (.int .u8 f.i4) := by rw [Nat.add_assoc, ← b5]; exact hR5.cell _ _ (opL_at R t g hg 7 _ rfl)
                      have NQ : ∀ W, (binOp .neq 33 (arr5 f.i0 f.i1 f.i2 f.i3 f.i4) (arr5 f.i0 f.i1 f.i2 f.i3 f.i4)).run Try.prog W = .ok (.bool false) W := fun W => neq5 W _ _ _ _ _
                      have tn1 : ¬ (n : Int) ≤ (t : Int) := by omega
                      have tn2 : (t : Int) < (n : Int) := by omega
                      have wt1 : IntKind.i64.wrap ((t : Int) + 1) = ((t + 1 : Nat) : Int) := by rw [IntKind.wrap_i64]; have := KQ.out.2; have := hn.out; omega
                      clear hR5 hrow b0 b1 b2 b3 b4 b5 kn hg
                      go_wp2_with fail
                      rw [← HY.out.1, ← HY.out.2]
                      go_wp2_with fail
                      skip
                      go_quiet (fail)
                      go_wp2_with fail
                      exact ⟨⟨i + 1, by omega, by go_num, t + 1, by go_num, now, f.r, now, rfl, rfl, rfl, _, R, And.intro (E2.out.next (below_drewN (Below.refl _ _) _)) (And.intro KN.out (Nat.le_succ_of_le KQ.out.2))⟩, by simp [intOf]; omega⟩
                  · by_cases hc : f.c = 0
                    · have FIN : Hid _ := And.intro E2.out (And.intro (K0.out hc) (Nat.le_succ_of_le KQ.out.2))
                      go_wp2_with fail
                      rw [← HY.out.1]
                      exact ⟨⟨i + 1, by omega, by go_num, t, by go_num, now, f.r, now, rfl, rfl, rfl, _, R, FIN.out⟩, by simp [intOf]; omega⟩
                    · obtain ⟨g, hg, hby, kn⟩ := K1.out hc
                      have KN : Hid (Kw a0 i0 (S.tick now) R (t + 1) now f.r now) := kn
                      have htn : t < n := by rw [hn.out]; exact (List.getElem?_eq_some_iff.1 hg).1
                      have hrow : Own y 35 9 (.slice ra n rc) n (opL R) := by have z := E2.out.row; rw [← hn.out] at z; exact z
                      obtain ⟨g5, o5, c5, e5, hR5⟩ := hrow.pos (by omega)
                      cases e5
                      simp only [Opx.by, Wt.by, List.cons.injEq, and_true] at hby
                      obtain ⟨b0, b1, b2, b3, b4, b5⟩ := hby
                      have x1 : y.cell? ⟨g5, o5 + t * 9 + 1, none⟩ = some (.int .u16 f.c) := by rw [Nat.add_assoc, ← b0]; exact hR5.cell _ _ (opL_at R t g hg 1 _ rfl)
                      have x3 : y.cell? ⟨g5, o5 + t * 9 + 3, none⟩ = some (.int .u8 f.i0) := by rw [Nat.add_assoc, ← b1]; exact hR5.cell _ _ (opL_at R t g hg 3 _ rfl)
                      have x4 : y.cell? ⟨g5, o5 + t * 9 + 4, none⟩ = some (.int .u8 f.i1) := by rw [Nat.add_assoc, ← b2]; exact hR5.cell _ _ (opL_at R t g hg 4 _ rfl)
                      have x5 : y.cell? ⟨g5, o5 + t * 9 + 5, none⟩ = some (.int .u8 f.i2) := by rw [Nat.add_assoc, ← b3]; exact hR5.cell _ _ (opL_at R t g hg 5 _ rfl)
                      have x6 : y.cell? ⟨g5, o5 + t * 9 + 6, none⟩ = some (.int .u8 f.i3) := by rw [Nat.add_assoc, ← b4]; exact hR5.cell _ _ (opL_at R t g hg 6 _ rfl)
                      have x7 : y.cell? ⟨g5, o5 + t * 9 + 7, none⟩ = some (.int .u8 f.i4) := by rw [Nat.add_assoc, ← b5]; exact hR5.cell _ _ (opL_at R t g hg 7 _ rfl)
                      have NQ : ∀ W, (binOp .neq 33 (arr5 f.i0 f.i1 f.i2 f.i3 f.i4) (arr5 f.i0 f.i1 f.i2 f.i3 f.i4)).run Try.prog W = .ok (.bool false) W := fun W => neq5 W _ _ _ _ _
                      have tn1 : ¬ (n : Int) ≤ (t : Int) := by omega
                      have tn2 : (t : Int) < (n : Int) := by omega
                      have wt1 : IntKind.i64.wrap ((t : Int) + 1) = ((t + 1 : Nat) : Int) := by rw [IntKind.wrap_i64]; have := KQ.out.2; have := hn.out; omega
                      clear hR5 hrow b0 b1 b2 b3 b4 b5 kn hg
                      go_wp2_with fail
                      rw [← HY.out.1, ← HY.out.2]
                      go_wp2_with fail
                      skip
                      go_quiet (fail)
                      go_wp2_with fail
                      exact ⟨⟨i + 1, by omega, by go_num, t + 1, by go_num, now, f.r, now, rfl, rfl, rfl, _, R, And.intro (E2.out.next (below_drewN (Below.refl _ _) _)) (And.intro KN.out (Nat.le_succ_of_le KQ.out.2))⟩, by simp [intOf]; omega⟩
        · clear c1 c2 c3 c4 c5 c6 c7 c8
          have FIN : Hid _ := And.intro TR.out.1 (And.intro TR.out.2.1 (Nat.le_succ_of_le TR.out.2.2))
          go_wp2_with fail
          exact ⟨⟨i + 1, by omega, by go_num, t, by go_num, last, reg, now, rfl, rfl, rfl, S, R, FIN.out⟩, by simp [intOf]; omega⟩
    have TD := TR.out.1.next (w' := wr.drew) (Below.drew (Below.refl _ _))
    have RC := TD.call fun v hv => raise_any hv x.c x.b x.i0 x.i1 x.i2 x.i3 x.i4 XO.out.c0 XO.out.o
    clear TD
    by_cases hr : S.raiseC x.c x.b = 0
    · rw [hr] at RC
      have KR : Hid (Kw a0 i0 (S.raise x.c x.b x.i0 x.i1 x.i2 x.i3 x.i4) (R ++ [x]) t last reg now ∧ (R ++ [x]).length ≤ i + 1) := ⟨TR.out.2.1.raise x hr, by have := TR.out.2.2; simp; omega⟩
      have R3 : Hid (R.length ≤ 1000) := by have := TR.out.2.2; show _ ≤ _; omega
      clear TR hr
      go_wp2_with fail
      refine wp_region_held_drew (S := fun x1 => Below w.heap.size w x1) (by kernel_rfl) (Below.drew BB.out) (fun hHeld => ?_)
      refine wpAnyH_take (i := 0) (v := (.pointer (some ⟨p, 0, none⟩))) rfl (by kernel_rfl) (by kernel_rfl) (by kernel_rfl) (fun _ _ _ h => h) (Or.inl ⟨by rfl, ?_⟩) (by assumption) ?_
      · intro w9 hSw
        try dsimp only at hSw
        go_simp
        all_goals try decide
        all_goals try assumption
        all_goals try omega
      try simp only [Act.put, List.getElem_toArray, List.getElem_cons_succ, List.getElem_cons_zero, List.setIfInBounds_toArray, List.set_cons_zero, List.set_cons_succ]
      refine wpAnyH_take (i := 1) (v := (.slice (some ⟨b, off, none⟩) len cap)) rfl (by kernel_rfl) (by kernel_rfl) (by kernel_rfl) (fun _ _ _ h => h) (Or.inl ⟨by rfl, ?_⟩) (by assumption) ?_
      · intro w9 hSw
        try dsimp only at hSw
        go_simp
        all_goals try decide
        all_goals try assumption
        all_goals try omega
      try simp only [Act.put, List.getElem_toArray, List.getElem_cons_succ, List.getElem_cons_zero, List.setIfInBounds_toArray, List.set_cons_zero, List.set_cons_succ]
      refine wpAnyH_take (i := 2) (v := (.int .i64 (i : Int))) rfl (by kernel_rfl) (by kernel_rfl) (by kernel_rfl) (fun _ _ _ h => h) (Or.inl ⟨by rfl, ?_⟩) (by assumption) ?_
      · intro w9 hSw
        try dsimp only at hSw
        go_simp
        all_goals try decide
        all_goals try assumption
        all_goals try omega
      try simp only [Act.put, List.getElem_toArray, List.getElem_cons_succ, List.getElem_cons_zero, List.setIfInBounds_toArray, List.set_cons_zero, List.set_cons_succ]
      refine wpAnyH_take (i := 3) (v := (.pointer (some ⟨b, off + i * 9, none⟩))) rfl (by kernel_rfl) (by kernel_rfl) (by kernel_rfl) (fun _ _ _ h => h) (Or.inl ⟨by rfl, ?_⟩) (by assumption) ?_
      · intro w9 hSw
        try dsimp only at hSw
        go_simp
        all_goals try decide
        all_goals try assumption
        all_goals try omega
      try simp only [Act.put, List.getElem_toArray, List.getElem_cons_succ, List.getElem_cons_zero, List.setIfInBounds_toArray, List.set_cons_zero, List.set_cons_succ]
      refine wpAnyH_take (i := 4) (v := (.pointer (some ⟨b, off + i * 9 + 1, none⟩))) rfl (by kernel_rfl) (by kernel_rfl) (by kernel_rfl) (fun _ _ _ h => h) (Or.inl ⟨by rfl, ?_⟩) (by assumption) ?_
      · intro w9 hSw
        try dsimp only at hSw
        go_simp
        all_goals try decide
        all_goals try assumption
        all_goals try omega
      try simp only [Act.put, List.getElem_toArray, List.getElem_cons_succ, List.getElem_cons_zero, List.setIfInBounds_toArray, List.set_cons_zero, List.set_cons_succ]
      refine wpAnyH_take (i := 5) (v := (.int .u16 x.c)) rfl (by kernel_rfl) (by kernel_rfl) (by kernel_rfl) (fun _ _ _ h => h) (Or.inl ⟨by rfl, ?_⟩) (by assumption) ?_
      · intro w9 hSw
        try dsimp only at hSw
        have hc1 := HC.out _ hSw 1 _ rfl
        go_simp
        all_goals try decide
        all_goals try assumption
        all_goals try omega
      try simp only [Act.put, List.getElem_toArray, List.getElem_cons_succ, List.getElem_cons_zero, List.setIfInBounds_toArray, List.set_cons_zero, List.set_cons_succ]
      refine wpAnyH_take (i := 6) (v := (.slice (some ⟨b, off, none⟩) len cap)) rfl (by kernel_rfl) (by kernel_rfl) (by kernel_rfl) (fun _ _ _ h => h) (Or.inl ⟨by rfl, ?_⟩) (by assumption) ?_
      · intro w9 hSw
        try dsimp only at hSw
        go_simp
        all_goals try decide
        all_goals try assumption
        all_goals try omega
      try simp only [Act.put, List.getElem_toArray, List.getElem_cons_succ, List.getElem_cons_zero, List.setIfInBounds_toArray, List.set_cons_zero, List.set_cons_succ]
      refine wpAnyH_take (i := 7) (v := (.int .i64 (i : Int))) rfl (by kernel_rfl) (by kernel_rfl) (by kernel_rfl) (fun _ _ _ h => h) (Or.inl ⟨by rfl, ?_⟩) (by assumption) ?_
      · intro w9 hSw
        try dsimp only at hSw
        go_simp
        all_goals try decide
        all_goals try assumption
        all_goals try omega
      try simp only [Act.put, List.getElem_toArray, List.getElem_cons_succ, List.getElem_cons_zero, List.setIfInBounds_toArray, List.set_cons_zero, List.set_cons_succ]
      refine wpAnyH_take (i := 8) (v := (.pointer (some ⟨b, off + i * 9, none⟩))) rfl (by kernel_rfl) (by kernel_rfl) (by kernel_rfl) (fun _ _ _ h => h) (Or.inl ⟨by rfl, ?_⟩) (by assumption) ?_
      · intro w9 hSw
        try dsimp only at hSw
        go_simp
        all_goals try decide
        all_goals try assumption
        all_goals try omega
      try simp only [Act.put, List.getElem_toArray, List.getElem_cons_succ, List.getElem_cons_zero, List.setIfInBounds_toArray, List.set_cons_zero, List.set_cons_succ]
      refine wpAnyH_take (i := 9) (v := (.pointer (some ⟨b, off + i * 9 + 2, none⟩))) rfl (by kernel_rfl) (by kernel_rfl) (by kernel_rfl) (fun _ _ _ h => h) (Or.inl ⟨by rfl, ?_⟩) (by assumption) ?_
      · intro w9 hSw
        try dsimp only at hSw
        go_simp
        all_goals try decide
        all_goals try assumption
        all_goals try omega
      try simp only [Act.put, List.getElem_toArray, List.getElem_cons_succ, List.getElem_cons_zero, List.setIfInBounds_toArray, List.set_cons_zero, List.set_cons_succ]
      refine wpAnyH_take (i := 10) (v := (.int .u8 (x.b : Int))) rfl (by kernel_rfl) (by kernel_rfl) (by kernel_rfl) (fun _ _ _ h => h) (Or.inl ⟨by rfl, ?_⟩) (by assumption) ?_
      · intro w9 hSw
        try dsimp only at hSw
        have hc2 := HC.out _ hSw 2 _ rfl
        go_simp
        all_goals try decide
        all_goals try assumption
        all_goals try omega
      try simp only [Act.put, List.getElem_toArray, List.getElem_cons_succ, List.getElem_cons_zero, List.setIfInBounds_toArray, List.set_cons_zero, List.set_cons_succ]
      refine wpAnyH_take (i := 11) (v := (.slice (some ⟨b, off, none⟩) len cap)) rfl (by kernel_rfl) (by kernel_rfl) (by kernel_rfl) (fun _ _ _ h => h) (Or.inl ⟨by rfl, ?_⟩) (by assumption) ?_
      · intro w9 hSw
        try dsimp only at hSw
        go_simp
        all_goals try decide
        all_goals try assumption
        all_goals try omega
      try simp only [Act.put, List.getElem_toArray, List.getElem_cons_succ, List.getElem_cons_zero, List.setIfInBounds_toArray, List.set_cons_zero, List.set_cons_succ]
      refine wpAnyH_take (i := 12) (v := (.int .i64 (i : Int))) rfl (by kernel_rfl) (by kernel_rfl) (by kernel_rfl) (fun _ _ _ h => h) (Or.inl ⟨by rfl, ?_⟩) (by assumption) ?_
      · intro w9 hSw
        try dsimp only at hSw
        go_simp
        all_goals try decide
        all_goals try assumption
        all_goals try omega
      try simp only [Act.put, List.getElem_toArray, List.getElem_cons_succ, List.getElem_cons_zero, List.setIfInBounds_toArray, List.set_cons_zero, List.set_cons_succ]
      refine wpAnyH_take (i := 13) (v := (.pointer (some ⟨b, off + i * 9, none⟩))) rfl (by kernel_rfl) (by kernel_rfl) (by kernel_rfl) (fun _ _ _ h => h) (Or.inl ⟨by rfl, ?_⟩) (by assumption) ?_
      · intro w9 hSw
        try dsimp only at hSw
        go_simp
        all_goals try decide
        all_goals try assumption
        all_goals try omega
      try simp only [Act.put, List.getElem_toArray, List.getElem_cons_succ, List.getElem_cons_zero, List.setIfInBounds_toArray, List.set_cons_zero, List.set_cons_succ]
      refine wpAnyH_take (i := 14) (v := (.pointer (some ⟨b, off + i * 9 + 3, none⟩))) rfl (by kernel_rfl) (by kernel_rfl) (by kernel_rfl) (fun _ _ _ h => h) (Or.inl ⟨by rfl, ?_⟩) (by assumption) ?_
      · intro w9 hSw
        try dsimp only at hSw
        go_simp
        all_goals try decide
        all_goals try assumption
        all_goals try omega
      try simp only [Act.put, List.getElem_toArray, List.getElem_cons_succ, List.getElem_cons_zero, List.setIfInBounds_toArray, List.set_cons_zero, List.set_cons_succ]
      refine wpAnyH_take (i := 15) (v := (arr5 x.i0 x.i1 x.i2 x.i3 x.i4)) rfl (by kernel_rfl) (by kernel_rfl) (by kernel_rfl) (fun _ _ _ h => h) (Or.inl ⟨by rfl, ?_⟩) (by assumption) ?_
      · intro w9 hSw
        try dsimp only at hSw
        have hc3 := HC.out _ hSw 3 _ rfl
        have hc4 := HC.out _ hSw 4 _ rfl
        have hc5 := HC.out _ hSw 5 _ rfl
        have hc6 := HC.out _ hSw 6 _ rfl
        have hc7 := HC.out _ hSw 7 _ rfl
        go_simp
        all_goals try decide
        all_goals try assumption
        all_goals try omega
      try simp only [Act.put, List.getElem_toArray, List.getElem_cons_succ, List.getElem_cons_zero, List.setIfInBounds_toArray, List.set_cons_zero, List.set_cons_succ]
      refine wpAnyH_ready (rs := [16]) (by kernel_rfl) (by simp) ?_
      refine AllReadyH.cons rfl (fun K' hK => ?_) AllReadyH.nil
      rw [if_pos (by rfl)]
      simp only [List.getElem_toArray, List.getElem_cons_succ, List.getElem_cons_zero]
      have S0 := hHeld
      go_wp2_with fail
      refine RC.mono ?_
      rintro e wq ⟨rfl, EQ⟩
      try go_wp2_with fail
      refine hK.out _ _ (EQ.ez.bel) (fun hHeld => ?_)
      clear hK K'
      try simp only [Act.put, List.getElem_toArray, List.getElem_cons_succ, List.getElem_cons_zero, List.setIfInBounds_toArray, List.set_cons_zero, List.set_cons_succ]
      refine wpAnyH_take (i := 17) (v := (.bool true)) rfl (by kernel_rfl) (by kernel_rfl) (by kernel_rfl) (fun _ _ _ h => h) (Or.inl ⟨by rfl, ?_⟩) (by assumption) ?_
      · intro w9 hSw
        try dsimp only at hSw
        go_simp
        all_goals try decide
        all_goals try assumption
        all_goals try omega
      try simp only [Act.put, List.getElem_toArray, List.getElem_cons_succ, List.getElem_cons_zero, List.setIfInBounds_toArray, List.set_cons_zero, List.set_cons_succ]
      refine wpAnyH_done (by kernel_rfl) ?_ _
      clear hHeld
      obtain ⟨g9, o9, rc9, wz, AP, FZ⟩ := grow_op EQ R3.out x
      have h0 : wq.cell? ⟨b, off + i * 9, none⟩ = some (.int .u8 x.k) := HC.out _ EQ.ez.bel 0 _ rfl
      have h1 : wq.cell? ⟨b, off + i * 9 + 1, none⟩ = some (.int .u16 x.c) := HC.out _ EQ.ez.bel 1 _ rfl
      have h2 : wq.cell? ⟨b, off + i * 9 + 2, none⟩ = some (.int .u8 (x.b : Int)) := HC.out _ EQ.ez.bel 2 _ rfl
      have h3 : wq.cell? ⟨b, off + i * 9 + 3, none⟩ = some (.int .u8 x.i0) := HC.out _ EQ.ez.bel 3 _ rfl
      have h4 : wq.cell? ⟨b, off + i * 9 + 4, none⟩ = some (.int .u8 x.i1) := HC.out _ EQ.ez.bel 4 _ rfl
      have h5 : wq.cell? ⟨b, off + i * 9 + 5, none⟩ = some (.int .u8 x.i2) := HC.out _ EQ.ez.bel 5 _ rfl
      have h6 : wq.cell? ⟨b, off + i * 9 + 6, none⟩ = some (.int .u8 x.i3) := HC.out _ EQ.ez.bel 6 _ rfl
      have h7 : wq.cell? ⟨b, off + i * 9 + 7, none⟩ = some (.int .u8 x.i4) := HC.out _ EQ.ez.bel 7 _ rfl
      have h8 : wq.cell? ⟨b, off + i * 9 + 8, none⟩ = some (.int .i64 x.now) := HC.out _ EQ.ez.bel 8 _ rfl
      rw [← hn.out] at AP FZ
      have FZ' : Hid _ := FZ
      have wn2 : ((n : Int) + 1) = ((n + 1 : Nat) : Int) := by omega
      clear EQ FZ RC c0 c1 c2 c3 c4 c5 c6 c7 c8
      go_wp2_with (at_builtin; refine wpList_app_by rfl _ _ _ rfl _ _ rfl rfl _ AP ?_)
      exact ⟨⟨i + 1, by omega, by go_num, t, by go_num, last, reg, now, rfl, rfl, rfl, _, R ++ [x], FZ'.out, KR.out⟩, by simp [intOf]; omega⟩
    · obtain ⟨rz, hrz⟩ : ∃ rz, rz = S.raiseC x.c x.b := ⟨_, rfl⟩
      have KR : Hid (Kw a0 i0 (S.raise x.c x.b x.i0 x.i1 x.i2 x.i3 x.i4) R t last reg now ∧ R.length ≤ i + 1) := ⟨TR.out.2.1.noraise x hr, Nat.le_succ_of_le TR.out.2.2⟩
      rw [← hrz] at RC hr
      clear hrz TR
      go_wp2_with fail
      refine wp_region_held_drew (S := fun x1 => Below w.heap.size w x1) (by kernel_rfl) (Below.drew BB.out) (fun hHeld => ?_)
      refine wpAnyH_take (i := 0) (v := (.pointer (some ⟨p, 0, none⟩))) rfl (by kernel_rfl) (by kernel_rfl) (by kernel_rfl) (fun _ _ _ h => h) (Or.inl ⟨by rfl, ?_⟩) (by assumption) ?_
      · intro w9 hSw
        try dsimp only at hSw
        go_simp
        all_goals try decide
        all_goals try assumption
        all_goals try omega
      try simp only [Act.put, List.getElem_toArray, List.getElem_cons_succ, List.getElem_cons_zero, List.setIfInBounds_toArray, List.set_cons_zero, List.set_cons_succ]
      refine wpAnyH_take (i := 1) (v := (.slice (some ⟨b, off, none⟩) len cap)) rfl (by kernel_rfl) (by kernel_rfl) (by kernel_rfl) (fun _ _ _ h => h) (Or.inl ⟨by rfl, ?_⟩) (by assumption) ?_
      · intro w9 hSw
        try dsimp only at hSw
        go_simp
        all_goals try decide
        all_goals try assumption
        all_goals try omega
      try simp only [Act.put, List.getElem_toArray, List.getElem_cons_succ, List.getElem_cons_zero, List.setIfInBounds_toArray, List.set_cons_zero, List.set_cons_succ]
      refine wpAnyH_take (i := 2) (v := (.int .i64 (i : Int))) rfl (by kernel_rfl) (by kernel_rfl) (by kernel_rfl) (fun _ _ _ h => h) (Or.inl ⟨by rfl, ?_⟩) (by assumption) ?_
      · intro w9 hSw
        try dsimp only at hSw
        go_simp
        all_goals try decide
        all_goals try assumption
        all_goals try omega
      try simp only [Act.put, List.getElem_toArray, List.getElem_cons_succ, List.getElem_cons_zero, List.setIfInBounds_toArray, List.set_cons_zero, List.set_cons_succ]
      refine wpAnyH_take (i := 3) (v := (.pointer (some ⟨b, off + i * 9, none⟩))) rfl (by kernel_rfl) (by kernel_rfl) (by kernel_rfl) (fun _ _ _ h => h) (Or.inl ⟨by rfl, ?_⟩) (by assumption) ?_
      · intro w9 hSw
        try dsimp only at hSw
        go_simp
        all_goals try decide
        all_goals try assumption
        all_goals try omega
      try simp only [Act.put, List.getElem_toArray, List.getElem_cons_succ, List.getElem_cons_zero, List.setIfInBounds_toArray, List.set_cons_zero, List.set_cons_succ]
      refine wpAnyH_take (i := 4) (v := (.pointer (some ⟨b, off + i * 9 + 1, none⟩))) rfl (by kernel_rfl) (by kernel_rfl) (by kernel_rfl) (fun _ _ _ h => h) (Or.inl ⟨by rfl, ?_⟩) (by assumption) ?_
      · intro w9 hSw
        try dsimp only at hSw
        go_simp
        all_goals try decide
        all_goals try assumption
        all_goals try omega
      try simp only [Act.put, List.getElem_toArray, List.getElem_cons_succ, List.getElem_cons_zero, List.setIfInBounds_toArray, List.set_cons_zero, List.set_cons_succ]
      refine wpAnyH_take (i := 5) (v := (.int .u16 x.c)) rfl (by kernel_rfl) (by kernel_rfl) (by kernel_rfl) (fun _ _ _ h => h) (Or.inl ⟨by rfl, ?_⟩) (by assumption) ?_
      · intro w9 hSw
        try dsimp only at hSw
        have hc1 := HC.out _ hSw 1 _ rfl
        go_simp
        all_goals try decide
        all_goals try assumption
        all_goals try omega
      try simp only [Act.put, List.getElem_toArray, List.getElem_cons_succ, List.getElem_cons_zero, List.setIfInBounds_toArray, List.set_cons_zero, List.set_cons_succ]
      refine wpAnyH_take (i := 6) (v := (.slice (some ⟨b, off, none⟩) len cap)) rfl (by kernel_rfl) (by kernel_rfl) (by kernel_rfl) (fun _ _ _ h => h) (Or.inl ⟨by rfl, ?_⟩) (by assumption) ?_
      · intro w9 hSw
        try dsimp only at hSw
        go_simp
        all_goals try decide
        all_goals try assumption
        all_goals try omega
      try simp only [Act.put, List.getElem_toArray, List.getElem_cons_succ, List.getElem_cons_zero, List.setIfInBounds_toArray, List.set_cons_zero, List.set_cons_succ]
      refine wpAnyH_take (i := 7) (v := (.int .i64 (i : Int))) rfl (by kernel_rfl) (by kernel_rfl) (by kernel_rfl) (fun _ _ _ h => h) (Or.inl ⟨by rfl, ?_⟩) (by assumption) ?_
      · intro w9 hSw
        try dsimp only at hSw
        go_simp
        all_goals try decide
        all_goals try assumption
        all_goals try omega
      try simp only [Act.put, List.getElem_toArray, List.getElem_cons_succ, List.getElem_cons_zero, List.setIfInBounds_toArray, List.set_cons_zero, List.set_cons_succ]
      refine wpAnyH_take (i := 8) (v := (.pointer (some ⟨b, off + i * 9, none⟩))) rfl (by kernel_rfl) (by kernel_rfl) (by kernel_rfl) (fun _ _ _ h => h) (Or.inl ⟨by rfl, ?_⟩) (by assumption) ?_
      · intro w9 hSw
        try dsimp only at hSw
        go_simp
        all_goals try decide
        all_goals try assumption
        all_goals try omega
      try simp only [Act.put, List.getElem_toArray, List.getElem_cons_succ, List.getElem_cons_zero, List.setIfInBounds_toArray, List.set_cons_zero, List.set_cons_succ]
      refine wpAnyH_take (i := 9) (v := (.pointer (some ⟨b, off + i * 9 + 2, none⟩))) rfl (by kernel_rfl) (by kernel_rfl) (by kernel_rfl) (fun _ _ _ h => h) (Or.inl ⟨by rfl, ?_⟩) (by assumption) ?_
      · intro w9 hSw
        try dsimp only at hSw
        go_simp
        all_goals try decide
        all_goals try assumption
        all_goals try omega
      try simp only [Act.put, List.getElem_toArray, List.getElem_cons_succ, List.getElem_cons_zero, List.setIfInBounds_toArray, List.set_cons_zero, List.set_cons_succ]
      refine wpAnyH_take (i := 10) (v := (.int .u8 (x.b : Int))) rfl (by kernel_rfl) (by kernel_rfl) (by kernel_rfl) (fun _ _ _ h => h) (Or.inl ⟨by rfl, ?_⟩) (by assumption) ?_
      · intro w9 hSw
        try dsimp only at hSw
        have hc2 := HC.out _ hSw 2 _ rfl
        go_simp
        all_goals try decide
        all_goals try assumption
        all_goals try omega
      try simp only [Act.put, List.getElem_toArray, List.getElem_cons_succ, List.getElem_cons_zero, List.setIfInBounds_toArray, List.set_cons_zero, List.set_cons_succ]
      refine wpAnyH_take (i := 11) (v := (.slice (some ⟨b, off, none⟩) len cap)) rfl (by kernel_rfl) (by kernel_rfl) (by kernel_rfl) (fun _ _ _ h => h) (Or.inl ⟨by rfl, ?_⟩) (by assumption) ?_
      · intro w9 hSw
        try dsimp only at hSw
        go_simp
        all_goals try decide
        all_goals try assumption
        all_goals try omega
      try simp only [Act.put, List.getElem_toArray, List.getElem_cons_succ, List.getElem_cons_zero, List.setIfInBounds_toArray, List.set_cons_zero, List.set_cons_succ]
      refine wpAnyH_take (i := 12) (v := (.int .i64 (i : Int))) rfl (by kernel_rfl) (by kernel_rfl) (by kernel_rfl) (fun _ _ _ h => h) (Or.inl ⟨by rfl, ?_⟩) (by assumption) ?_
      · intro w9 hSw
        try dsimp only at hSw
        go_simp
        all_goals try decide
        all_goals try assumption
        all_goals try omega
      try simp only [Act.put, List.getElem_toArray, List.getElem_cons_succ, List.getElem_cons_zero, List.setIfInBounds_toArray, List.set_cons_zero, List.set_cons_succ]
      refine wpAnyH_take (i := 13) (v := (.pointer (some ⟨b, off + i * 9, none⟩))) rfl (by kernel_rfl) (by kernel_rfl) (by kernel_rfl) (fun _ _ _ h => h) (Or.inl ⟨by rfl, ?_⟩) (by assumption) ?_
      · intro w9 hSw
        try dsimp only at hSw
        go_simp
        all_goals try decide
        all_goals try assumption
        all_goals try omega
      try simp only [Act.put, List.getElem_toArray, List.getElem_cons_succ, List.getElem_cons_zero, List.setIfInBounds_toArray, List.set_cons_zero, List.set_cons_succ]
      refine wpAnyH_take (i := 14) (v := (.pointer (some ⟨b, off + i * 9 + 3, none⟩))) rfl (by kernel_rfl) (by kernel_rfl) (by kernel_rfl) (fun _ _ _ h => h) (Or.inl ⟨by rfl, ?_⟩) (by assumption) ?_
      · intro w9 hSw
        try dsimp only at hSw
        go_simp
        all_goals try decide
        all_goals try assumption
        all_goals try omega
      try simp only [Act.put, List.getElem_toArray, List.getElem_cons_succ, List.getElem_cons_zero, List.setIfInBounds_toArray, List.set_cons_zero, List.set_cons_succ]
      refine wpAnyH_take (i := 15) (v := (arr5 x.i0 x.i1 x.i2 x.i3 x.i4)) rfl (by kernel_rfl) (by kernel_rfl) (by kernel_rfl) (fun _ _ _ h => h) (Or.inl ⟨by rfl, ?_⟩) (by assumption) ?_
      · intro w9 hSw
        try dsimp only at hSw
        have hc3 := HC.out _ hSw 3 _ rfl
        have hc4 := HC.out _ hSw 4 _ rfl
        have hc5 := HC.out _ hSw 5 _ rfl
        have hc6 := HC.out _ hSw 6 _ rfl
        have hc7 := HC.out _ hSw 7 _ rfl
        go_simp
        all_goals try decide
        all_goals try assumption
        all_goals try omega
      try simp only [Act.put, List.getElem_toArray, List.getElem_cons_succ, List.getElem_cons_zero, List.setIfInBounds_toArray, List.set_cons_zero, List.set_cons_succ]
      refine wpAnyH_ready (rs := [16]) (by kernel_rfl) (by simp) ?_
      refine AllReadyH.cons rfl (fun K' hK => ?_) AllReadyH.nil
      rw [if_pos (by rfl)]
      simp only [List.getElem_toArray, List.getElem_cons_succ, List.getElem_cons_zero]
      have S0 := hHeld
      go_wp2_with fail
      refine RC.mono ?_
      rintro e wq ⟨rfl, EQ⟩
      try go_wp2_with fail
      refine hK.out _ _ (EQ.ez.bel) (fun hHeld => ?_)
      clear hK K'
      try simp only [Act.put, List.getElem_toArray, List.getElem_cons_succ, List.getElem_cons_zero, List.setIfInBounds_toArray, List.set_cons_zero, List.set_cons_succ]
      refine wpAnyH_take (i := 17) (v := (.bool false)) rfl (by kernel_rfl) (by kernel_rfl) (by kernel_rfl) (fun _ _ _ h => h) (Or.inl ⟨by rfl, ?_⟩) (by assumption) ?_
      · intro w9 hSw
        try dsimp only at hSw
        go_simp
        all_goals try decide
        all_goals try assumption
        all_goals try omega
      try simp only [Act.put, List.getElem_toArray, List.getElem_cons_succ, List.getElem_cons_zero, List.setIfInBounds_toArray, List.set_cons_zero, List.set_cons_succ]
      refine wpAnyH_done (by kernel_rfl) ?_ _
      clear hHeld RC c0 c1 c2 c3 c4 c5 c6 c7 c8
      have FIN : Hid _ := And.intro EQ KR.out
      go_wp2_with fail
      exact ⟨⟨i + 1, by omega, by go_num, t, by go_num, last, reg, now, rfl, rfl, rfl, _, R, FIN.out⟩, by simp [intOf]; omega⟩
theorem emcyKnows_any (a0 i0 : Int) (a : Option Addr) (len cap : Nat) (L : List Opx) (w : World) (o : IsOpx w a len L) : Calls Try.prog 5 #[.int .u8 a0, .int .i64 i0, .slice a len cap] w fun e w' => e = .returned (.bool true) ∧ Below w.heap.size w w' := by
  cases h : ndB a0 with
  | false => exact knows_bad a0 i0 a len cap w (.inl h)
  | true =>
    cases hi : tmB i0 with
    | false => exact knows_bad a0 i0 a len cap w (.inr hi)
    | true =>
      by_cases hl : 300 < len
      · exact knows_many a0 i0 a len cap w hl h hi
      · exact knows_good a0 i0 a len cap L w o (by omega) h hi
#print axioms emcyKnows_any
end Go.Proofs.Ytnbdnmfnmnboiaa
