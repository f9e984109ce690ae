/-
  The walks of the program's Raise and Clear.
-/
import Derived.Test.YtnbdnmfnmnboiaaZg
import Derived.Test.YtnbdnmfnmnboiaaTk9
namespace Go.Proofs.Ytnbdnmfnmnboiaa
open Go.RowKit

/-- Without a code. -/
def cutS : List (Int × Nat) → Int → List (Int × Nat)
  | [], _ => []
  | x :: l, i => if (i == x.1) = true then l else x :: cutS l i
theorem msk_cut (l : List (Int × Nat)) (i : Int) : msk (cutS l i) = cutM (msk l) i := by
  induction l with
  | nil => rfl
  | cons x l ih =>
    simp only [cutS, msk, List.map_cons, cutM]
    split
    · rfl
    · simp only [List.map_cons]
      exact congrArg _ ih
theorem cutS_sub (l : List (Int × Nat)) (i : Int) : (cutS l i).Sublist l := by
  induction l with
  | nil => exact List.Sublist.refl _
  | cons x l ih =>
    simp only [cutS]
    split
    · exact List.sublist_cons_self _ _
    · exact ih.cons_cons _
def ES.stand (S : ES) (c : Int) (b : Nat) : ES := { S with st := S.st ++ [(c, b)] }
def ES.note (S : ES) (f : Int) : ES := { S with hs := hAdd S.hs f, ln := min (S.ln + 1) 16 }
def ES.tell (S : ES) (x : Wt) : ES := { S with ws := S.ws ++ [x] }
def ES.drop (S : ES) (c : Int) : ES := { S with st := cutS S.st c }
/-- What Raise answers, and leaves. -/
def ES.raiseC (S : ES) (c : Int) (b : Nat) : Int := if c = 0 ∨ 7 < b then 2 else if S.has c = true then 6 else if 16 ≤ S.st.length ∨ 16 ≤ S.ws.length then 3 else 0
def ES.raised (S : ES) (c : Int) (b : Nat) (i0 i1 i2 i3 i4 : Int) : ES := ((S.stand c b).note (fdV c i0 i1)).tell ⟨c, (S.stand c b).reg, i0, i1, i2, i3, i4⟩
def ES.raise (S : ES) (c : Int) (b : Nat) (i0 i1 i2 i3 i4 : Int) : ES := if S.raiseC c b = 0 then S.raised c b i0 i1 i2 i3 i4 else S
/-- What Clear answers, and leaves. -/
def ES.clearC (S : ES) (c : Int) : Int := if S.has c = false then 5 else if 16 ≤ S.ws.length then 3 else 0
def ES.cleared (S : ES) (c : Int) : ES := (S.drop c).tell ⟨0, (S.drop c).reg, 0, 0, 0, 0, 0⟩
def ES.clear (S : ES) (c : Int) : ES := if S.clearC c = 0 then S.cleared c else S
/-- What a call leaves: errors in the same blocks, or in new ones. -/
def EPost (w w' : World) (p m : Nat) (v : Value) (S : ES) : Prop := ∃ v', IsE w' p m v' S ∧ (∀ g, v'.ownBlock = some g → v.ownBlock = some g ∨ w.heap.size ≤ g) ∧ Kp (fpE p m v) w w'
theorem EPost.same {w w' : World} {p m : Nat} {v : Value} {S : ES} (h : IsE w p m v S) (hb : Below w.heap.size w w') : EPost w w' p m v S := ⟨v, h.next hb, fun _ h => .inl h, Kp.of hb⟩
theorem pow256 : ∀ b : Nat, b < 8 → ((2 ^ b : Nat) : Int) = (2 : Int) ^ b % 256 := by decide
theorem load5 (w : World) (B : Nat) (i0 i1 i2 i3 i4 : Int) (h : w.heap[B]? = some (.cells #[.int .u8 i0, .int .u8 i1, .int .u8 i2, .int .u8 i3, .int .u8 i4] 33 (0, 0))) : (loadVar 33 ⟨B, 0, none⟩).run Try.prog w = .ok (arr5 i0 i1 i2 i3 i4) w :=
  load_part 33 5 (by kernel_rfl) (fun w => by kernel_rfl) w B 0 [.int .u8 i0, .int .u8 i1, .int .u8 i2, .int .u8 i3, .int .u8 i4] 33 h (by simp)
theorem wp_upd_by {o : Oper} {a : Act} {w w' : World} {K : Act → World → Prop} {Q : Exit → Act → World → Prop} (t : TypeId) (m x y : Operand) (ho : o.op = .mapUpdate t m x y) (mv xv v : Value) (hm : a.eval m = mv) (hx : a.eval x = xv) (hy : a.eval y = v)
    (hr : (Instr.mapUpdate t mv xv v).run Try.prog w = .ok () w') (h : K (a.put o.dst undef) w') : o.wp Try.prog a w K Q := by
  unfold Oper.wp execOp
  simp only [ho, hm, hx, hy, Sem.run_bind, Sem.run_pure, Result.andThen_ok, hr]
  exact h
theorem wpList_upd_by {ops : Array Oper} {rest : List Oper} {o : Oper} {a : Act} {w w' : World} {Q : Exit → Act → World → Prop} (hgd : o.guard = none) (t : TypeId) (m x y : Operand) (ho : o.op = .mapUpdate t m x y) (mv xv v : Value) (hm : a.eval m = mv) (hx : a.eval x = xv) (hy : a.eval y = v)
    (hr : (Instr.mapUpdate t mv xv v).run Try.prog w = .ok () w') (h : wpList Try.prog ops Q rest (a.put o.dst undef) w') : wpList Try.prog ops Q (o :: rest) a w :=
  wpList_plain hgd fun _ hK => wp_upd_by t m x y ho mv xv v hm hx hy hr (hK _ _ h)
theorem has_none {S : ES} {c : Int} (h : S.has c = false) : lookM (msk S.st) c = none := by
  unfold ES.has at h
  cases hq : lookM (msk S.st) c with
  | none => rfl
  | some x => rw [hq] at h; cases h

set_option linter.unusedSimpArgs false in
set_option maxHeartbeats 4000000 in
set_option maxRecDepth 100000 in
theorem raise_zero (w : World) (p : Nat) (c : Int) (b : Nat) (i0 i1 i2 i3 i4 : Int) (hc : c = 0) : Calls Try.prog 15 #[.pointer (some ⟨p, 0, none⟩), .int .u16 c, .int .u8 (b : Int), arr5 i0 i1 i2 i3 i4] w fun e w' => e = .returned (.int .i64 2) ∧ Below w.heap.size w w' := by
  subst hc
  go_enter Try.func15, Try.ntmps15
  go_wp2_with fail
  go_ret
  exact ⟨rfl, (by repeat (first | exact Below.refl _ _ | apply Below.drew | apply Below.al))⟩
set_option linter.unusedSimpArgs false in
set_option maxHeartbeats 4000000 in
set_option maxRecDepth 100000 in
theorem raise_bit (w : World) (p : Nat) (c : Int) (b : Nat) (i0 i1 i2 i3 i4 : Int) (hc : ¬ c = 0) (hb : 7 < b) : Calls Try.prog 15 #[.pointer (some ⟨p, 0, none⟩), .int .u16 c, .int .u8 (b : Int), arr5 i0 i1 i2 i3 i4] w fun e w' => e = .returned (.int .i64 2) ∧ Below w.heap.size w w' := by
  have hb' : (7 : Int) < (b : Int) := by omega
  clear hb
  go_enter Try.func15, Try.ntmps15
  go_wp2_with fail
  go_ret
  exact ⟨rfl, (by repeat (first | exact Below.refl _ _ | apply Below.drew | apply Below.al))⟩
set_option linter.unusedSimpArgs false in
set_option maxHeartbeats 4000000 in
set_option maxRecDepth 100000 in
theorem raise_twice {w : World} {p m : Nat} {v : Value} {S : ES} (h : IsE w p m v S) (c : Int) (b : Nat) (i0 i1 i2 i3 i4 : Int) (hc : ¬ c = 0) (hb : ¬ 7 < b) (ht : S.has c = true) : Calls Try.prog 15 #[.pointer (some ⟨p, 0, none⟩), .int .u16 c, .int .u8 (b : Int), arr5 i0 i1 i2 i3 i4] w fun e w' => e = .returned (.int .i64 6) ∧ Below w.heap.size w w' := by
  have ND := fun W => isNode_any S.A W
  rw [show ndB S.A = true from by simp [ndB]; exact ⟨h.ok.a0, h.ok.a1⟩] at ND
  have k0 := h.c0
  have lp := h.lt
  have ST : Hid (∀ W, Below w.heap.size w W → Calls Try.prog 23 #[.pointer (some ⟨p, 0, none⟩), .int .u16 c] W fun e w' => e = .returned (.bool (S.has c)) ∧ w' = W) := fun W hW => stands_any (h.next hW) c
  have CR : Hid (∀ W, Below w.heap.size w W → Calls Try.prog 35 #[.pointer (some ⟨p, 0, none⟩)] W fun e w' => e = .returned (.bool (decide (16 ≤ S.ws.length))) ∧ w' = W) := fun W hW => crowded_any (h.next hW)
  have LN : ∀ ty, ∀ W, Below w.heap.size w W → (Builtin.len_ #[60] ty #[.map (some m)]).run Try.prog W = .ok (.int .i64 (S.st.length : Int)) W := fun ty W hW => by have := len_run W m _ ty (h.map.next hW); simpa [msk] using this
  have k2 := h.c2
  obtain ⟨hs, hhs⟩ : ∃ hs, Hid (hs = S.has c) := ⟨_, rfl⟩
  rw [← hhs.out] at ST
  have hb' : ¬ (7 : Int) < (b : Int) := by omega
  rw [hhs.out, ht] at ST
  clear h hb ht LN CR hhs
  go_enter Try.func15, Try.ntmps15
  go_wp2_with fail
  refine (ND _).mono ?_
  rintro e w1 ⟨rfl, rfl⟩
  go_wp2_with fail
  refine (ST.out _ (by repeat (first | exact Below.refl _ _ | apply Below.drew | apply Below.al))).mono ?_
  rintro e w1 ⟨rfl, rfl⟩
  go_wp2_with fail
  go_ret
  exact ⟨rfl, (by repeat (first | exact Below.refl _ _ | apply Below.drew | apply Below.al))⟩
set_option linter.unusedSimpArgs false in
set_option maxHeartbeats 4000000 in
set_option maxRecDepth 100000 in
theorem raise_many {w : World} {p m : Nat} {v : Value} {S : ES} (h : IsE w p m v S) (c : Int) (b : Nat) (i0 i1 i2 i3 i4 : Int) (hc : ¬ c = 0) (hb : ¬ 7 < b) (ht : S.has c = false) (hl : 16 ≤ S.st.length) : Calls Try.prog 15 #[.pointer (some ⟨p, 0, none⟩), .int .u16 c, .int .u8 (b : Int), arr5 i0 i1 i2 i3 i4] w fun e w' => e = .returned (.int .i64 3) ∧ Below w.heap.size w w' := by
  have ND := fun W => isNode_any S.A W
  rw [show ndB S.A = true from by simp [ndB]; exact ⟨h.ok.a0, h.ok.a1⟩] at ND
  have k0 := h.c0
  have lp := h.lt
  have ST : Hid (∀ W, Below w.heap.size w W → Calls Try.prog 23 #[.pointer (some ⟨p, 0, none⟩), .int .u16 c] W fun e w' => e = .returned (.bool (S.has c)) ∧ w' = W) := fun W hW => stands_any (h.next hW) c
  have CR : Hid (∀ W, Below w.heap.size w W → Calls Try.prog 35 #[.pointer (some ⟨p, 0, none⟩)] W fun e w' => e = .returned (.bool (decide (16 ≤ S.ws.length))) ∧ w' = W) := fun W hW => crowded_any (h.next hW)
  have LN : ∀ ty, ∀ W, Below w.heap.size w W → (Builtin.len_ #[60] ty #[.map (some m)]).run Try.prog W = .ok (.int .i64 (S.st.length : Int)) W := fun ty W hW => by have := len_run W m _ ty (h.map.next hW); simpa [msk] using this
  have k2 := h.c2
  obtain ⟨hs, hhs⟩ : ∃ hs, Hid (hs = S.has c) := ⟨_, rfl⟩
  rw [← hhs.out] at ST
  have hb' : ¬ (7 : Int) < (b : Int) := by omega
  have hl' : (16 : Int) ≤ (S.st.length : Int) := by omega
  have LN1 := fun ty => LN ty (w.alloc (row5 i0 i1 i2 i3 i4)) (by repeat (first | exact Below.refl _ _ | apply Below.drew | apply Below.al))
  rw [hhs.out, ht] at ST
  clear h hb ht CR hhs hl LN
  go_enter Try.func15, Try.ntmps15
  go_wp2_with fail
  refine (ND _).mono ?_
  rintro e w1 ⟨rfl, rfl⟩
  go_wp2_with fail
  refine (ST.out _ (by repeat (first | exact Below.refl _ _ | apply Below.drew | apply Below.al))).mono ?_
  rintro e w1 ⟨rfl, rfl⟩
  go_wp2_with fail
  go_ret
  exact ⟨rfl, (by repeat (first | exact Below.refl _ _ | apply Below.drew | apply Below.al))⟩
set_option linter.unusedSimpArgs false in
set_option maxHeartbeats 4000000 in
set_option maxRecDepth 100000 in
theorem raise_full {w : World} {p m : Nat} {v : Value} {S : ES} (h : IsE w p m v S) (c : Int) (b : Nat) (i0 i1 i2 i3 i4 : Int) (hc : ¬ c = 0) (hb : ¬ 7 < b) (ht : S.has c = false) (hl : ¬ 16 ≤ S.st.length) (hw : 16 ≤ S.ws.length) : Calls Try.prog 15 #[.pointer (some ⟨p, 0, none⟩), .int .u16 c, .int .u8 (b : Int), arr5 i0 i1 i2 i3 i4] w fun e w' => e = .returned (.int .i64 3) ∧ Below w.heap.size w w' := by
  have ND := fun W => isNode_any S.A W
  rw [show ndB S.A = true from by simp [ndB]; exact ⟨h.ok.a0, h.ok.a1⟩] at ND
  have k0 := h.c0
  have lp := h.lt
  have ST : Hid (∀ W, Below w.heap.size w W → Calls Try.prog 23 #[.pointer (some ⟨p, 0, none⟩), .int .u16 c] W fun e w' => e = .returned (.bool (S.has c)) ∧ w' = W) := fun W hW => stands_any (h.next hW) c
  have CR : Hid (∀ W, Below w.heap.size w W → Calls Try.prog 35 #[.pointer (some ⟨p, 0, none⟩)] W fun e w' => e = .returned (.bool (decide (16 ≤ S.ws.length))) ∧ w' = W) := fun W hW => crowded_any (h.next hW)
  have LN : ∀ ty, ∀ W, Below w.heap.size w W → (Builtin.len_ #[60] ty #[.map (some m)]).run Try.prog W = .ok (.int .i64 (S.st.length : Int)) W := fun ty W hW => by have := len_run W m _ ty (h.map.next hW); simpa [msk] using this
  have k2 := h.c2
  obtain ⟨hs, hhs⟩ : ∃ hs, Hid (hs = S.has c) := ⟨_, rfl⟩
  rw [← hhs.out] at ST
  have hb' : ¬ (7 : Int) < (b : Int) := by omega
  have hl' : ¬ (16 : Int) ≤ (S.st.length : Int) := by omega
  have LN1 := fun ty => LN ty (w.alloc (row5 i0 i1 i2 i3 i4)) (by repeat (first | exact Below.refl _ _ | apply Below.drew | apply Below.al))
  rw [hhs.out, ht] at ST
  have hd : decide (16 ≤ S.ws.length) = true := by simpa using hw
  rw [hd] at CR
  clear h hb ht hhs hl hw hd LN
  go_enter Try.func15, Try.ntmps15
  go_wp2_with fail
  refine (ND _).mono ?_
  rintro e w1 ⟨rfl, rfl⟩
  go_wp2_with fail
  refine (ST.out _ (by repeat (first | exact Below.refl _ _ | apply Below.drew | apply Below.al))).mono ?_
  rintro e w1 ⟨rfl, rfl⟩
  go_wp2_with fail
  refine (CR.out _ (by repeat (first | exact Below.refl _ _ | apply Below.drew | apply Below.al))).mono ?_
  rintro e w1 ⟨rfl, rfl⟩
  go_wp2_with fail
  go_ret
  exact ⟨rfl, (by repeat (first | exact Below.refl _ _ | apply Below.drew | apply Below.al))⟩
set_option linter.unusedSimpArgs false in
set_option maxHeartbeats 4000000 in
set_option maxRecDepth 100000 in
theorem raise_ok {w : World} {p m : Nat} {v : Value} {S : ES} (h : IsE w p m v S) (c : Int) (b : Nat) (i0 i1 i2 i3 i4 : Int) (hc : ¬ c = 0) (hb : ¬ 7 < b) (ht : S.has c = false) (hl : ¬ 16 ≤ S.st.length) (hw : ¬ 16 ≤ S.ws.length) (c0 : 0 ≤ c ∧ c < 65536) (ho : Oct [i0, i1, i2, i3, i4]) : Calls Try.prog 15 #[.pointer (some ⟨p, 0, none⟩), .int .u16 c, .int .u8 (b : Int), arr5 i0 i1 i2 i3 i4] w fun e w' => e = .returned (.int .i64 0) ∧ EPost w w' p m v (S.raised c b i0 i1 i2 i3 i4) := by
  have ND := fun W => isNode_any S.A W
  rw [show ndB S.A = true from by simp [ndB]; exact ⟨h.ok.a0, h.ok.a1⟩] at ND
  have k0 := h.c0
  have lp := h.lt
  have hb' : ¬ (7 : Int) < (b : Int) := by omega
  have hl' : ¬ (16 : Int) ≤ (S.st.length : Int) := by omega
  have K0 : Below w.heap.size w (w.alloc (row5 i0 i1 i2 i3 i4)) := (by repeat (first | exact Below.refl _ _ | apply Below.drew | apply Below.al))
  have bI := at11 w (row5 i0 i1 i2 i3 i4) w.heap.size rfl
  obtain ⟨y, hy⟩ : ∃ y, y = w.alloc (row5 i0 i1 i2 i3 i4) := ⟨_, rfl⟩
  rw [← hy] at K0 bI
  have hE := h.next K0
  have ST := stands_any hE c
  rw [ht] at ST
  have CR := crowded_any hE
  rw [show decide (16 ≤ S.ws.length) = false from by simpa using hw] at CR
  have LN : ∀ ty, (Builtin.len_ #[60] ty #[.map (some m)]).run Try.prog y = .ok (.int .i64 (S.st.length : Int)) y := fun ty => by have := len_run y m _ ty hE.map; simpa [msk] using this
  obtain ⟨w1, PR, hm1, hk1, hz1⟩ := put_run y m _ c ((2 ^ b : Nat) : Int) hE.map (has_none ht)
  rw [pow256 b (by omega)] at PR
  have E1 : Hid (IsE w1 p m v (S.stand c b)) := ⟨hk1.at (by simp [hE.pm]) hE.head, by show IsM w1 m (msk (S.st ++ [(c, b)])); rw [show msk (S.st ++ [(c, b)]) = msk S.st ++ [(c, ((2 ^ b : Nat) : Int))] from by simp [msk]]; exact hm1, hE.row.kp hk1 (fun g hg => by have := hE.pv.2; rw [hg] at this; simpa using this), by
    obtain ⟨a0, a1, i0, i1, s16, bit, h16, l16, w16, wok, d0, d1, dn⟩ := h.ok
    exact ⟨a0, a1, i0, i1, by simp [ES.stand]; omega, fun x hx => by
      rcases List.mem_append.1 hx with hx | hx
      · exact bit x hx
      · rw [List.mem_singleton.1 hx]; show b < 8; omega, h16, l16, w16, wok, d0, d1, dn⟩⟩
  have FI : Hid (w1.heap[w.heap.size]? = some (.cells #[.int .u8 i0, .int .u8 i1, .int .u8 i2, .int .u8 i3, .int .u8 i4] 33 (0, 0))) := hk1.at (by have := h.map.lt; simp; omega) bI
  have KY : Hid (Kp (fpE p m v) w w1) := (Kp.of K0).trans (hk1.more (by simp))
  have lI : Hid (w.heap.size < w1.heap.size) := lt_of_heap FI.out
  have LPM : Hid (p < w.heap.size) := lp
  have HW : Hid (S.ws.length < 16) := by show _ < _; omega
  have HO : Hid (Oct [i0, i1, i2, i3, i4]) := ho
  have C0 : Hid (0 ≤ c ∧ c < 65536) := c0
  have k2 := hE.c2
  have ky0 := hE.c0
  have ly := hE.lt
  clear hm1 hk1 hz1 bI K0 h hb ht hl hw ho c0
  go_enter Try.func15, Try.ntmps15
  go_wp2_with fail
  rw [← hy]
  clear hy hE k0 lp
  refine (ND _).mono ?_
  rintro e w1 ⟨rfl, rfl⟩
  go_wp2_with fail
  refine ST.mono ?_
  rintro e w8 ⟨rfl, rfl⟩
  go_wp2_with fail
  refine CR.mono ?_
  rintro e w8 ⟨rfl, rfl⟩
  go_wp2_with (first | (at_mapUpdate; refine wpList_upd_by rfl _ _ _ _ rfl _ _ _ rfl rfl rfl PR ?_) | go_in)
  refine wp_region_held_drew (S := fun x1 => Kp [p] w1 x1) (by kernel_rfl) (Kp.drew (Kp.refl _ _)) (fun hHeld => ?_)
  refine tk 0 (.pointer (some ⟨p, 0, none⟩)) rfl (.inl ⟨by rfl, ?_⟩) ?_
  · intro w9 hSw
    try dsimp only at hSw
    go_simp
    all_goals try decide
    all_goals try assumption
    all_goals try omega
  try simp only [Act.put, gA, gS, gZ, sA, sZ, sS]
  refine tk 1 (.pointer (some ⟨p, 0, none⟩)) rfl (.inl ⟨by rfl, ?_⟩) ?_
  · intro w9 hSw
    try dsimp only at hSw
    go_simp
    all_goals try decide
    all_goals try assumption
    all_goals try omega
  try simp only [Act.put, gA, gS, gZ, sA, sZ, sS]
  refine tk 2 (.pointer (some ⟨p, 3, none⟩)) rfl (.inl ⟨by rfl, ?_⟩) ?_
  · intro w9 hSw
    try dsimp only at hSw
    go_simp
    all_goals try decide
    all_goals try assumption
    all_goals try omega
  try simp only [Act.put, gA, gS, gZ, sA, sZ, sS]
  refine tk 3 (.int .u16 c) rfl (.inl ⟨by rfl, ?_⟩) ?_
  · intro w9 hSw
    try dsimp only at hSw
    go_simp
    all_goals try decide
    all_goals try assumption
    all_goals try omega
  try simp only [Act.put, gA, gS, gZ, sA, sZ, sS]
  refine tk 4 (arr5 i0 i1 i2 i3 i4) rfl (.inl ⟨by rfl, ?_⟩) ?_
  · intro w9 hSw
    try dsimp only at hSw
    exact ex_load_by 33 (.tmp 7) rfl _ _ rfl (load5 _ _ _ _ _ _ _ (Kp.at hSw (by have := LPM.out; simp; omega) FI.out))
  try simp only [Act.put, gA, gS, gZ, sA, sZ, sS]
  refine wpAnyH_ready (rs := [5]) (by kernel_rfl) (by simp) ?_
  refine AllReadyH.cons rfl (fun K' hK => ?_) AllReadyH.nil
  rw [if_pos (by rfl)]
  simp only [gA, gS, gZ]
  have S0 := hHeld
  go_wp2_with fail
  refine (hadd_any p m v (S.stand c b) w1.drew E1.out.head E1.out.ok.h16 E1.out.ok.l16 c i0 i1 i2 i3 i4 C0.out (HO.out i0 (by simp)) (HO.out i1 (by simp))).mono ?_
  rintro e w2 ⟨rfl, hp2, k2⟩
  try go_wp2_with fail
  refine hK.out _ _ (S0.trans k2) (fun hHeld => ?_)
  clear hK K'
  try simp only [Act.put, gA, gS, gZ, sA, sZ, sS]
  clear S0
  refine wpAnyH_done (by kernel_rfl) ?_ _
  have E2 : Hid (IsE w2 p m v ((S.stand c b).note (fdV c i0 i1))) := ⟨hp2, E1.out.map.kp hHeld (by have := E1.out.pm; simp; omega), E1.out.row.kp hHeld (fun g hg => by have := E1.out.pv.1; rw [hg] at this; simpa using this), by
    obtain ⟨a0, a1, i0', i1', s16, bit, h16, l16, w16, wok, d0, d1, dn⟩ := E1.out.ok
    exact ⟨a0, a1, i0', i1', s16, bit, hAdd_len _ _ h16, Nat.min_le_right _ _, w16, wok, d0, d1, dn⟩⟩
  have F2 := hHeld.at (by have := LPM.out; simp; omega) FI.out
  have f0 : w2.cell? ⟨w.heap.size, 0, none⟩ = some (.int .u8 i0) := by rw [cell_of_row w2 _ 0 _ _ _ F2]; rfl
  have f1 : w2.cell? ⟨w.heap.size, 1, none⟩ = some (.int .u8 i1) := by rw [cell_of_row w2 _ 1 _ _ _ F2]; rfl
  have f2 : w2.cell? ⟨w.heap.size, 2, none⟩ = some (.int .u8 i2) := by rw [cell_of_row w2 _ 2 _ _ _ F2]; rfl
  have f3 : w2.cell? ⟨w.heap.size, 3, none⟩ = some (.int .u8 i3) := by rw [cell_of_row w2 _ 3 _ _ _ F2]; rfl
  have f4 : w2.cell? ⟨w.heap.size, 4, none⟩ = some (.int .u8 i4) := by rw [cell_of_row w2 _ 4 _ _ _ F2]; rfl
  have K2 : Hid (Kp (fpE p m v) w w2) := KY.out.trans (hHeld.more (by simp))
  clear hp2 k2 hHeld F2
  have WT := wait_any E2.out HW.out c i0 i1 i2 i3 i4 C0.out HO.out
  go_wp2_with fail
  refine WT.mono ?_
  rintro e w3 ⟨rfl, v', e3, g3, k3⟩
  have FIN : Hid (EPost w w3 p m v (S.raised c b i0 i1 i2 i3 i4)) := ⟨v', e3, fun g hg => (g3 g hg).imp id (fun h => by have := K2.out.size; omega), K2.out.trans k3⟩
  clear e3 g3 k3 WT
  go_wp2_with fail
  go_ret
  exact ⟨rfl, FIN.out⟩
/-- Raise. -/
theorem raise_any {w : World} {p m : Nat} {v : Value} {S : ES} (h : IsE w p m v S) (c : Int) (b : Nat) (i0 i1 i2 i3 i4 : Int) (c0 : 0 ≤ c ∧ c < 65536) (ho : Oct [i0, i1, i2, i3, i4]) :
    Calls Try.prog 15 #[.pointer (some ⟨p, 0, none⟩), .int .u16 c, .int .u8 (b : Int), arr5 i0 i1 i2 i3 i4] w fun e w' => e = .returned (.int .i64 (S.raiseC c b)) ∧ EPost w w' p m v (S.raise c b i0 i1 i2 i3 i4) := by
  have no : ∀ k : Int, S.raiseC c b = k → k ≠ 0 → Calls Try.prog 15 #[.pointer (some ⟨p, 0, none⟩), .int .u16 c, .int .u8 (b : Int), arr5 i0 i1 i2 i3 i4] w (fun e w' => e = .returned (.int .i64 k) ∧ Below w.heap.size w w') → Calls Try.prog 15 #[.pointer (some ⟨p, 0, none⟩), .int .u16 c, .int .u8 (b : Int), arr5 i0 i1 i2 i3 i4] w fun e w' => e = .returned (.int .i64 (S.raiseC c b)) ∧ EPost w w' p m v (S.raise c b i0 i1 i2 i3 i4) := by
    intro k hk h0 hc
    refine hc.mono ?_
    rintro e w' ⟨rfl, hb⟩
    rw [hk]
    refine ⟨rfl, ?_⟩
    unfold ES.raise
    rw [hk, if_neg h0]
    exact EPost.same h hb
  by_cases hc : c = 0
  · exact no 2 (by unfold ES.raiseC; rw [if_pos (.inl hc)]) (by decide) (raise_zero w p c b i0 i1 i2 i3 i4 hc)
  by_cases hb : 7 < b
  · exact no 2 (by unfold ES.raiseC; rw [if_pos (.inr hb)]) (by decide) (raise_bit w p c b i0 i1 i2 i3 i4 hc hb)
  have e1 : ¬ (c = 0 ∨ 7 < b) := fun q => q.elim hc hb
  cases ht : S.has c with
  | true => exact no 6 (by unfold ES.raiseC; rw [if_neg e1, if_pos ht]) (by decide) (raise_twice h c b i0 i1 i2 i3 i4 hc hb ht)
  | false =>
    have e2 : ¬ S.has c = true := by rw [ht]; decide
    by_cases hl : 16 ≤ S.st.length
    · exact no 3 (by unfold ES.raiseC; rw [if_neg e1, if_neg e2, if_pos (.inl hl)]) (by decide) (raise_many h c b i0 i1 i2 i3 i4 hc hb ht hl)
    by_cases hw : 16 ≤ S.ws.length
    · exact no 3 (by unfold ES.raiseC; rw [if_neg e1, if_neg e2, if_pos (.inr hw)]) (by decide) (raise_full h c b i0 i1 i2 i3 i4 hc hb ht hl hw)
    have e3 : S.raiseC c b = 0 := by unfold ES.raiseC; rw [if_neg e1, if_neg e2, if_neg (fun q => q.elim hl hw)]
    rw [e3]
    unfold ES.raise
    rw [if_pos e3]
    exact raise_ok h c b i0 i1 i2 i3 i4 hc hb ht hl hw c0 ho
theorem wp_del_by {w w' : World} {o : Oper} {a : Act} {K : Act → World → Prop} {Q : Exit → Act → World → Prop} (s x : Operand) (t k : TypeId)
    (ho : o.op = .call { callee := .builtin .delete, args := #[s, x], argTypes := #[t, k] }) (vs vx : Value) (hs : a.eval s = vs) (hx : a.eval x = vx)
    (v' : Value) (hr : (Builtin.delete_ #[t, k] o.type #[vs, vx]).run Try.prog w = .ok v' w') (h : K (a.put o.dst v') w') : o.wp Try.prog a w K Q := by
  unfold Oper.wp execOp
  simp only [ho, resolve, invoke, builtin, Sem.run_bind, Sem.run_pure, Result.andThen_ok, List.map_toArray, List.map_cons, List.map_nil, hs, hx, hr]
  exact h
theorem wpList_del_by {w w' : World} {ops : Array Oper} {rest : List Oper} {o : Oper} {a : Act} {Q : Exit → Act → World → Prop} (hgd : o.guard = none) (s x : Operand) (t k : TypeId)
    (ho : o.op = .call { callee := .builtin .delete, args := #[s, x], argTypes := #[t, k] }) (vs vx : Value) (hs : a.eval s = vs) (hx : a.eval x = vx)
    (v' : Value) (hr : (Builtin.delete_ #[t, k] o.type #[vs, vx]).run Try.prog w = .ok v' w') (h : wpList Try.prog ops Q rest (a.put o.dst v') w') : wpList Try.prog ops Q (o :: rest) a w :=
  wpList_plain hgd fun _ hK => wp_del_by s x t k ho vs vx hs hx v' hr (hK _ _ h)
theorem cut_ok {S : ES} (h : S.Ok) (c : Int) : (S.drop c).Ok := by
  obtain ⟨a0, a1, i0, i1, s16, bit, h16, l16, w16, wok, d0, d1, dn⟩ := h
  exact ⟨a0, a1, i0, i1, Nat.le_trans (cutS_sub _ _).length_le s16, fun x hx => bit x ((cutS_sub _ _).subset hx), h16, l16, w16, wok, d0, d1, dn⟩
set_option linter.unusedSimpArgs false in
set_option maxHeartbeats 4000000 in
set_option maxRecDepth 100000 in
theorem clear_none {w : World} {p m : Nat} {v : Value} {S : ES} (h : IsE w p m v S) (c : Int) (ht : S.has c = false) : Calls Try.prog 16 #[.pointer (some ⟨p, 0, none⟩), .int .u16 c] w fun e w' => e = .returned (.int .i64 5) ∧ w' = w := by
  have ST := stands_any h c
  rw [ht] at ST
  clear h ht
  go_enter Try.func16, Try.ntmps16
  go_wp2_with fail
  refine ST.mono ?_
  rintro e w1 ⟨rfl, rfl⟩
  go_wp2_with fail
  go_ret
  exact ⟨rfl, rfl⟩
set_option linter.unusedSimpArgs false in
set_option maxHeartbeats 4000000 in
set_option maxRecDepth 100000 in
theorem clear_full {w : World} {p m : Nat} {v : Value} {S : ES} (h : IsE w p m v S) (c : Int) (ht : S.has c = true) (hw : 16 ≤ S.ws.length) : Calls Try.prog 16 #[.pointer (some ⟨p, 0, none⟩), .int .u16 c] w fun e w' => e = .returned (.int .i64 3) ∧ w' = w := by
  have ST := stands_any h c
  rw [ht] at ST
  have CR := crowded_any h
  rw [show decide (16 ≤ S.ws.length) = true from by simpa using hw] at CR
  clear h ht hw
  go_enter Try.func16, Try.ntmps16
  go_wp2_with fail
  refine ST.mono ?_
  rintro e w1 ⟨rfl, rfl⟩
  go_wp2_with fail
  refine CR.mono ?_
  rintro e w1 ⟨rfl, rfl⟩
  go_wp2_with fail
  go_ret
  exact ⟨rfl, rfl⟩
set_option linter.unusedSimpArgs false in
set_option maxHeartbeats 4000000 in
set_option maxRecDepth 100000 in
theorem clear_ok {w : World} {p m : Nat} {v : Value} {S : ES} (h : IsE w p m v S) (c : Int) (ht : S.has c = true) (hw : ¬ 16 ≤ S.ws.length) : Calls Try.prog 16 #[.pointer (some ⟨p, 0, none⟩), .int .u16 c] w fun e w' => e = .returned (.int .i64 0) ∧ EPost w w' p m v (S.cleared c) := by
  have ST := stands_any h c
  rw [ht] at ST
  have CR := crowded_any h
  rw [show decide (16 ≤ S.ws.length) = false from by simpa using hw] at CR
  have k2 := h.c2
  obtain ⟨w1, DR, hm1, hk1, hz1⟩ := del_run w m _ c 0 h.map (by unfold ES.has at ht; intro q; rw [q] at ht; cases ht)
  have E1 : Hid (IsE w1 p m v (S.drop c)) := ⟨hk1.at (by simp [h.pm]) h.head, by show IsM w1 m (msk (cutS S.st c)); rw [msk_cut]; exact hm1, h.row.kp hk1 (fun g hg => by have := h.pv.2; rw [hg] at this; simpa using this), cut_ok h.ok c⟩
  have K1 : Hid (Kp (fpE p m v) w w1) := hk1.more (by simp)
  have HW : Hid (S.ws.length < 16) := by show _ < _; omega
  clear h ht hw hm1 hk1 hz1
  go_enter Try.func16, Try.ntmps16
  go_wp2_with fail
  refine ST.mono ?_
  rintro e w8 ⟨rfl, rfl⟩
  go_wp2_with fail
  refine CR.mono ?_
  rintro e w8 ⟨rfl, rfl⟩
  go_wp2_with (at_builtin; refine wpList_del_by rfl _ _ _ _ rfl _ _ rfl rfl _ DR ?_)
  have WT := wait_any E1.out HW.out 0 0 0 0 0 0 (by decide) (by intro n hn; simp at hn; omega)
  refine WT.mono ?_
  rintro e w3 ⟨rfl, v', e3, g3, k3⟩
  have FIN : Hid (EPost w8 w3 p m v (S.cleared c)) := ⟨v', e3, fun g hg => (g3 g hg).imp id (fun h => by have := K1.out.size; omega), K1.out.trans k3⟩
  clear e3 g3 k3 WT
  go_wp2_with fail
  go_ret
  exact ⟨rfl, FIN.out⟩
/-- Clear. -/
theorem clear_any {w : World} {p m : Nat} {v : Value} {S : ES} (h : IsE w p m v S) (c : Int) : Calls Try.prog 16 #[.pointer (some ⟨p, 0, none⟩), .int .u16 c] w fun e w' => e = .returned (.int .i64 (S.clearC c)) ∧ EPost w w' p m v (S.clear c) := by
  cases ht : S.has c with
  | false =>
    have e1 : S.clearC c = 5 := by unfold ES.clearC; rw [if_pos ht]
    refine (clear_none h c ht).mono ?_
    rintro e w' ⟨rfl, rfl⟩
    refine ⟨by rw [e1], ?_⟩
    unfold ES.clear
    rw [e1, if_neg (by decide)]
    exact EPost.same h (Below.refl _ _)
  | true =>
    have h1 : ¬ S.has c = false := by rw [ht]; decide
    by_cases hw : 16 ≤ S.ws.length
    · have e1 : S.clearC c = 3 := by unfold ES.clearC; rw [if_neg h1, if_pos hw]
      refine (clear_full h c ht hw).mono ?_
      rintro e w' ⟨rfl, rfl⟩
      refine ⟨by rw [e1], ?_⟩
      unfold ES.clear
      rw [e1, if_neg (by decide)]
      exact EPost.same h (Below.refl _ _)
    · have e1 : S.clearC c = 0 := by unfold ES.clearC; rw [if_neg h1, if_neg hw]
      rw [e1]
      unfold ES.clear
      rw [if_pos e1]
      exact clear_ok h c ht hw
#print axioms clear_any
#print axioms raise_any
end Go.Proofs.Ytnbdnmfnmnboiaa
