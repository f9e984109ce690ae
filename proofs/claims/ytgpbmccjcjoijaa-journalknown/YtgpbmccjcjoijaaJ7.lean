/-
  The walks of records and of the function to range over.
-/
import Derived.Test.YtgpbmccjcjoijaaJt
namespace Go.Proofs.Ytgpbmccjcjoijaa
open Go.RowKit Go.Shelf
attribute [local go_sem] Oper.semAt_some

set_option maxHeartbeats 400000 in
theorem records_any (a : Option Addr) (len cap : Nat) (w : World) :
    Calls Try.prog 53 #[.slice a len cap] w fun e w' => e = .returned (.func (.func 62) #[] #[.pointer (some ⟨w.heap.size, 0, none⟩)]) ∧ w' = w.alloc (.cells #[.slice a len cap] 33) := by
  go_enter Try.func53, Try.ntmps53
  go_wp2_with fail
  go_ret
  exact ⟨rfl, rfl⟩

/-- Of what stands in cells only blocks of a list may turn; ahead of a place nothing else. -/
structure Kq (S : List Nat) (N : Nat) (w w' : World) : Prop where
  os : w'.os = w.os
  tape : w'.tape = w.tape
  output : w'.output = w.output
  size : w.heap.size ≤ w'.heap.size
  block : ∀ k o, w.heap[k]? = some o → k ∉ S → (k < N ∨ o.isCells = true) → w'.heap[k]? = some o
theorem Kq.trans {S : List Nat} {N : Nat} {a b c : World} (h : Kq S N a b) (k : Kq S N b c) : Kq S N a c :=
  ⟨k.os.trans h.os, k.tape.trans h.tape, k.output.trans h.output, Nat.le_trans h.size k.size, fun i o hi hs hc => k.block i o (h.block i o hi hs hc) hs hc⟩
theorem Kq.of {S : List Nat} (N : Nat) {a b : World} (h : Kp S a b) : Kq S N a b := ⟨h.os, h.tape, h.output, h.size, fun i o hi hs _ => by rw [h.block i (lt_of_heap hi) hs]; exact hi⟩
theorem Kq.put {S : List Nat} {N : Nat} (W : World) (l : Nat) (o o' : Obj) (hl : N ≤ l) (ho : W.heap[l]? = some o) (hc : o.isCells = false) : Kq S N W (W.putObj l o') := by
  refine ⟨rfl, rfl, rfl, by simp [World.putObj], fun k q hk _ hq => ?_⟩
  have hkl : k ≠ l := fun e => by
    subst e
    rw [ho] at hk
    obtain rfl := Option.some.inj hk
    rcases hq with hq | hq
    · omega
    · rw [hc] at hq; cases hq
  rw [← hk]
  simp [World.putObj, Ne.symm hkl]

/-- A record with where its bytes lie. -/
structure RX (w0 : World) (bl : Nat) where
  r : Rec
  off : Nat
  cap : Nat
  ok : r.Ok
  row : Row w0 (some ⟨bl, off, none⟩) r.bs.length r.bs
abbrev RX.enc {w0 : World} {bl : Nat} (x : RX w0 bl) : Array Value := #[.agg #[.int .u8 x.r.kind, .int .u8 x.r.grp, .slice (some ⟨bl, x.off, none⟩) x.r.bs.length x.cap]]
theorem Row.moved {w w' : World} {bl off n : Nat} {zs : List Int} (h : Row w (some ⟨bl, off, none⟩) n zs) (hb : w'.heap[bl]? = w.heap[bl]?) : Row w' (some ⟨bl, off, none⟩) n zs where
  size := h.size
  oct := h.oct
  at_ := fun hp => by
    obtain ⟨b', off', e, hc⟩ := h.at_ hp
    cases e
    exact ⟨bl, off, rfl, fun i hi => by rw [World.cell?_of_block (w := w) hb]; exact hc i hi⟩
theorem grown_of {w w' : World} (hb : Below w.heap.size w w') : w.grownBy w' none := ⟨hb.os, hb.tape, hb.output, hb.size, fun k hk _ => hb.block k hk⟩

set_option linter.unusedSimpArgs false in
set_option maxRecDepth 100000 in
set_option maxHeartbeats 4000000 in
theorem iter_in (n l Bn N bl off len cap : Nat) (S : List Nat) (b : List Int) (w0 : World) (hro : Row w0 (some ⟨bl, off, none⟩) len b) (hl : len ≤ 1000000) (hcap : len ≤ cap) (hb : bl ∉ S) (hbN : bl < N) (hBn : Bn ∉ S) (hBnN : Bn < N)
    (J Jx : List (RX w0 bl) → World → Prop) (W : World) (hJ : AbidesFrom W.heap.size J)
    (hY : ∀ pre x W, J pre W → pre.length < 1000000 → YieldAt Fence.wide (n - 1) Try.prog l x.enc W fun e W' =>
      (e = .returned (.bool true) ∧ J (pre ++ [x]) W' ∧ Kq S N W W') ∨ (e = .returned (.bool false) ∧ Jx (pre ++ [x]) W'))
    (hBW : W.heap[Bn]? = some (.cells #[.slice (some ⟨bl, off, none⟩) len cap] 33 (0, 0))) (hbW : W.heap[bl]? = w0.heap[bl]?) (hS : ∀ s ∈ S, s < W.heap.size) (h0 : J [] W) :
    CallsIn Fence.wide n Try.prog 62 #[.func (.yield l) #[] #[], .pointer (some ⟨Bn, 0, none⟩)] W fun e W' => (∃ v, e = .returned v) ∧
      ((∃ ys, ys.map (·.r) = recs b ∧ J ys W') ∨ (∃ pre, pre.map (·.r) <+: recs b ∧ Jx pre W')) := by
  refine callsIn_of_wp Try.func62 rfl trivial ?_ rfl
  simp only [Try.ntmps62, List.size_toArray, List.length_cons, List.length_nil, Nat.reduceAdd, Nat.reduceSub, Array.replicate_succ, Array.replicate_zero, List.push_toArray, List.append_toArray, List.nil_append, List.cons_append]
  gi_wp2
  gi_loopw [3] (fun p wr => ∃ (pre : List (RX w0 bl)) (rest : List Rec) (t : List Int), p = .int .i64 (roomR (pre.map (·.r)) : Nat) ∧ recs b = pre.map (·.r) ++ rest ∧ b = encs (pre.map (·.r)) ++ (encs rest ++ t) ∧ dec t = none ∧ (∀ r ∈ rest, r.Ok) ∧ J pre wr ∧ W.heap.size ≤ wr.heap.size ∧ wr.heap[Bn]? = some (.cells #[.slice (some ⟨bl, off, none⟩) len cap] 33 (0, 0)) ∧ wr.heap[bl]? = w0.heap[bl]?)
    (fun p wr => len + 1 - (intOf p).toNat)
  case atStart =>
    have hp := Parts.of hro.oct
    exact ⟨[], recs b, _, rfl, rfl, hp.eq, hp.stop, hp.ok, h0, Nat.le_refl _, hBW, hbW⟩
  case round =>
    obtain ⟨pre, rest, t, rfl, hx, he, hst, hok, hJs, hsz, hB, hbw⟩ := hrel
    obtain ⟨A, hA⟩ : ∃ A, Hid (roomR (pre.map (·.r)) = A) := ⟨_, rfl⟩
    rw [hA.out]
    have hz := hro.size
    have eL : (encs (pre.map (·.r))).length = A := by rw [encs_len, hA.out]
    have hAl : A ≤ len := by
      have := congrArg List.length he
      rw [List.length_append, eL] at this
      omega
    have hD : Hid (b.drop A = encs rest ++ t) := by
      show _ = _
      rw [he, ← eL, List.drop_left]
    have hcB : wr.cell? ⟨Bn, 0, none⟩ = some (.slice (some ⟨bl, off, none⟩) len cap) := by rw [cell_of_row wr Bn 0 _ _ _ hB]; rfl
    have hRw : Row wr (some ⟨bl, off, none⟩) len b := hro.moved hbw
    have g1 : (A : Int) ≤ len := by omega
    have g2 : (len : Int) ≤ cap := by omega
    have g3 : (A : Int) ≤ cap := by omega
    have HE : Hid (b = encs (pre.map (·.r)) ++ (encs rest ++ t)) := he
    have HX : Hid (recs b = pre.map (·.r) ++ rest) := hx
    have HB : Hid (wr.heap[Bn]? = some (.cells #[.slice (some ⟨bl, off, none⟩) len cap] 33 (0, 0))) := hB
    have HW : Hid (wr.heap[bl]? = w0.heap[bl]?) := hbw
    have HBW : Hid (W.heap[Bn]? = some (.cells #[.slice (some ⟨bl, off, none⟩) len cap] 33 (0, 0))) := hBW
    have HbW : Hid (W.heap[bl]? = w0.heap[bl]?) := hbW
    clear he hx hB hbw hBW hbW
    have JJ : ∀ w', Below wr.heap.size wr w' → J pre w' := fun w' hb => hJ _ _ _ none hJs (grown_of hb) (fun r e => by cases e)
    have HJ : Hid (∀ w', Below wr.heap.size wr w' → J pre w') := JJ
    clear JJ
    cases rest with
    | nil =>
      have hdn : dec (b.drop A) = none := by rw [hD.out]; exact hst
      have FIN : Hid (pre.map (·.r) = recs b) := by show _ = _; rw [HX.out]; simp
      by_cases hAc : cap = A
      · subst hAc
        have hR0 : Row wr (some ⟨bl, off, none⟩) 0 (b.drop cap) := ⟨by simp; omega, hro.oct.drop _, fun h => absurd h (by decide)⟩
        have DC := decoded_any (some ⟨bl, off, none⟩) 0 0 (b.drop cap) wr hR0 (by omega) (by omega)
        clear hR0 hRw
        gi_wp2_with fail
        refine ⟨trivial, (fun e => by cases e), ?_⟩
        with_reducible refine (callsIn_wide.2 DC).mono ?_
        rintro e w2 ⟨⟨v0, v1, a', n', c', rfl, _⟩, hb2⟩
        clear DC
        gi_wp2
        refine ⟨fun _ h => (by cases h), ?_⟩
        gi_wp2
        refine bodyPost_ret (results_none rfl _ _ _) rfl ?_
        exact ⟨⟨_, rfl⟩, .inl ⟨pre, FIN.out, HJ.out _ (Below.al hb2 _)⟩⟩
      · have hR1 : Row wr (some ⟨bl, off + A, none⟩) (len - A) (b.drop A) := by
          have := hRw.sub A (len - A) (by omega)
          rwa [List.take_of_length_le (by simp; omega)] at this
        have DC := decoded_any (some ⟨bl, off + A, none⟩) (len - A) (cap - A) (b.drop A) wr hR1 (by omega) (by omega)
        clear hR1 hRw
        gi_wp2_with fail
        refine ⟨trivial, (fun e => by cases e), ?_⟩
        with_reducible refine (callsIn_wide.2 DC).mono ?_
        rintro e w2 ⟨⟨v0, v1, a', n', c', rfl, _⟩, hb2⟩
        clear DC
        gi_wp2
        refine ⟨fun _ h => (by cases h), ?_⟩
        gi_wp2
        refine bodyPost_ret (results_none rfl _ _ _) rfl ?_
        exact ⟨⟨_, rfl⟩, .inl ⟨pre, FIN.out, HJ.out _ (Below.al hb2 _)⟩⟩
    | cons r rest =>
      have rok : r.Ok := hok r (by simp)
      have hds : dec (b.drop A) = some r := by rw [hD.out, encs_cons, List.append_assoc]; exact dec_enc rok _
      have eN : A + rm r.bs.length ≤ len := by
        have := congrArg List.length HE.out
        rw [List.length_append, List.length_append, eL, encs_cons, List.length_append, enc_len] at this
        omega
      have gN := rm_ge r.bs.length
      have hAc : ¬ cap = A := by omega
      have hR1 : Row wr (some ⟨bl, off + A, none⟩) (len - A) (b.drop A) := by
        have := hRw.sub A (len - A) (by omega)
        rwa [List.take_of_length_le (by simp; omega)] at this
      have DC := decoded_any (some ⟨bl, off + A, none⟩) (len - A) (cap - A) (b.drop A) wr hR1 (by omega) (by omega)
      clear hR1 hRw
      gi_wp2_with fail
      refine ⟨trivial, (fun e => by cases e), ?_⟩
      with_reducible refine (callsIn_wide.2 DC).mono ?_
      rintro e w2 ⟨⟨v0, v1, a', n', c', rfl, hd2⟩, hb2⟩
      clear DC
      obtain ⟨rfl, rfl, rfl, rr, bl', off1, off2, e1, rfl⟩ := hd2 r hds
      cases e1
      have hblw : bl < wr.heap.size := by
        have := hro.old (by omega) bl off rfl
        have h1 : (w0.heap[bl]?).isSome = true := by simp [this]
        rw [← HW.out] at h1
        by_cases hh : bl < wr.heap.size
        · exact hh
        · simp [hh] at h1
      have HB2 : Hid (Below wr.heap.size wr w2) := hb2
      obtain ⟨x, hxe, hxr⟩ : ∃ x : RX w0 bl, x.enc = #[.agg #[.int .u8 r.kind, .int .u8 r.grp, .slice (some ⟨bl, off2, none⟩) r.bs.length c']] ∧ x.r = r := ⟨⟨r, off2, c', rok, rr.moved (by rw [← HW.out]; exact (hb2.block bl hblw).symm)⟩, rfl, rfl⟩
      have hpl : pre.length ≤ A := by
        have : ∀ q : List Rec, q.length ≤ roomR q := fun q => by
          induction q with
          | nil => simp
          | cons y q ih => have := rm_ge y.bs.length; simp [roomR] at ih ⊢; omega
        have := this (pre.map (·.r))
        rw [hA.out] at this
        simpa using this
      obtain ⟨fn, tmps, assign, body, hy, hR⟩ := hY pre x (w2.alloc (.cells #[.int .u8 r.kind, .int .u8 r.grp, .slice (some ⟨bl, off2, none⟩) r.bs.length c'] 79)) (HJ.out _ (Below.al hb2 _)) (by omega)
      rw [hxe] at hy
      have HXR : Hid (x.r = r) := hxr
      clear hxe hxr hd2 rr hb2
      gi_wp2_with fail
      refine ⟨(fun e => by cases e), ?_⟩
      refine hR.mono ?_
      rintro e W3 (⟨rfl, hJ3, hk3⟩ | ⟨rfl, hJx3⟩)
      · have b2 := hk3.block _ _ (heap_alloc_new w2 _) (fun hm => by have := hS _ hm; have := HB2.out.size; omega) (.inr rfl)
        have c3 : W3.cell? ⟨w2.heap.size, 2, none⟩ = some (.slice (some ⟨bl, off2, none⟩) r.bs.length c') := by rw [cell_of_row W3 _ _ _ _ _ b2]; rfl
        have RM := room_any r.bs.length (by omega) W3
        have gA : (A : Int) + (rm r.bs.length : Nat) ≤ len := by omega
        have HB2' : Hid (W3.heap[w2.heap.size]? = _) := b2
        clear b2
        gi_wp2_with fail
        refine ⟨trivial, (fun e => by cases e), ?_⟩
        with_reducible refine (callsIn_wide.2 RM).mono ?_
        rintro e W3 ⟨rfl, rfl⟩
        clear RM c3 HB2'
        have RO : Hid (roomR ((pre ++ [x]).map (·.r)) = A + rm r.bs.length) := by
          show _ = _
          have e1 : roomR ((pre ++ [x]).map (·.r)) = roomR (pre.map (·.r)) + rm x.r.bs.length := by simp [roomR]
          rw [e1, hA.out, HXR.out]
        have k4 : ∀ k o, wr.heap[k]? = some o → k ∉ S → (k < N ∨ o.isCells = true) → W3.heap[k]? = some o := fun k o h1 h2 h3 => hk3.block k o (by rw [Below.heap_alloc _ _ _ (by have := lt_of_heap h1; have := HB2.out.size; omega), HB2.out.block k (lt_of_heap h1)]; exact h1) h2 h3
        have HBn : Hid (W3.heap[Bn]? = some (.cells #[.slice (some ⟨bl, off, none⟩) len cap] 33 (0, 0))) := k4 _ _ HB.out hBn (.inl hBnN)
        have Hbl : Hid (W3.heap[bl]? = w0.heap[bl]?) := by
          show _ = _
          obtain ⟨o, ho⟩ : ∃ o, wr.heap[bl]? = some o := ⟨_, Array.getElem?_eq_getElem hblw⟩
          rw [k4 bl o ho hb (.inl hbN), ← HW.out, ho]
        have Hsz : Hid (W.heap.size ≤ W3.heap.size) := by
          have h1 := hk3.size
          have h2 := HB2.out.size
          rw [World.size_alloc] at h1
          show _ ≤ _
          omega
        have HEE : Hid (b = encs ((pre ++ [x]).map (·.r)) ++ (encs rest ++ t)) := by
          show _ = _
          have e1 : encs ((pre ++ [x]).map (·.r)) = encs (pre.map (·.r)) ++ enc x.r := by simp [encs]
          rw [e1, HXR.out, List.append_assoc, ← List.append_assoc (enc r), ← encs_cons]
          exact HE.out
        clear k4
        gi_wp2_with fail
        refine ⟨⟨pre ++ [x], rest, t, by rw [RO.out]; simp, by rw [HX.out]; simp [HXR.out], HEE.out, hst, fun q hq => hok q (by simp [hq]), hJ3, Hsz.out, HBn.out, Hbl.out⟩, ?_⟩
        simp [intOf]
        omega
      · gi_wp2
        refine bodyPost_ret (results_none rfl _ _ _) rfl ?_
        exact ⟨⟨_, rfl⟩, .inr ⟨pre ++ [x], ⟨rest, by rw [HX.out]; simp [HXR.out]⟩, hJx3⟩⟩
#print axioms iter_in
end Go.Proofs.Ytgpbmccjcjoijaa
