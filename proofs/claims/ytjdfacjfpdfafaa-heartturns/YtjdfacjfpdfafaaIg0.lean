/-
  Which nodes are here, as the law keeps it; what events make of it.
-/
import Derived.Test.YtjdfacjfpdfafaaIf1
namespace Go.Proofs.Ytjdfacjfpdfafaa
open Go.RowKit

/-- Which nodes are here. -/
def kn (S : List Nd) : List Bool := (List.range 256).map fun (n : Nat) => (stV S (n : Int)).2
theorem kn_len (S : List Nd) : (kn S).length = 256 := by simp [kn]
theorem kn_get (S : List Nd) {n : Nat} (hn : n < 256) : (kn S)[n]? = some (stV S (n : Int)).2 := by
  unfold kn
  rw [List.getElem?_map, List.getElem?_range hn]
  rfl
theorem stV_at {S : List Nd} {n : Nat} {x : Nd} (h : S[n]? = some x) (hn : ndB (n : Int) = true) : (stV S (n : Int)).2 = (decide (0 < x.W) && x.on) := by
  unfold stV
  rw [show (n : Int).toNat = n from by omega, h]
  dsimp only
  by_cases h1 : 0 < x.W <;> cases h2 : x.on <;> simp [hn, h1]
theorem stV_set {S : List Nd} {k n : Nat} {x : Nd} (hk : k < S.length) (hn : ndB (k : Int) = true) : (stV (S.set k x) (n : Int)).2 = if n = k then (decide (0 < x.W) && x.on) else (stV S (n : Int)).2 := by
  by_cases h : n = k
  · subst h
    rw [if_pos rfl]
    exact stV_at (List.getElem?_set_self hk) hn
  · rw [if_neg h]
    unfold stV
    rw [show (n : Int).toNat = n from by omega, List.getElem?_set_ne (Ne.symm h)]
theorem kn_set {S : List Nd} {k : Nat} {x : Nd} (hk : k < S.length) (hn : ndB (k : Int) = true) : kn (S.set k x) = (kn S).set k (decide (0 < x.W) && x.on) := by
  refine List.ext_getElem? fun n => ?_
  have h2 := ndB_of hn
  by_cases hn2 : n < 256
  · rw [kn_get _ hn2, stV_set hk hn]
    by_cases h : n = k
    · subst h
      rw [if_pos rfl, List.getElem?_set_self (by rw [kn_len]; omega)]
    · rw [if_neg h, List.getElem?_set_ne (Ne.symm h), kn_get _ hn2]
  · rw [List.getElem?_eq_none (by rw [kn_len]; omega), List.getElem?_eq_none (by rw [List.length_set, kn_len]; omega)]
theorem set_same {l : List Bool} {k : Nat} {b : Bool} (h : l[k]? = some b) : l.set k b = l := by
  obtain ⟨h1, rfl⟩ := List.getElem?_eq_some_iff.1 h
  exact List.set_getElem_self h1
/-- What events make of it. -/
def play : List Bool → List Ev → Option (List Bool)
  | H, [] => some H
  | H, e :: l => if (H[e.n.toNat]?.getD false == (e.k == 1)) = true then none else play (H.set e.n.toNat (e.k != 4)) l
theorem play_app (l : List Ev) (e : Ev) : ∀ H, play H (l ++ [e]) = (play H l).bind fun H' => play H' [e] := by
  induction l with
  | nil => intro H; rfl
  | cons d l ih =>
    intro H
    simp only [List.cons_append, play]
    split
    · rfl
    · exact ih _
theorem kn_none : kn noneS = List.replicate 256 false := by
  refine List.ext_getElem? fun n => ?_
  by_cases hn2 : n < 256
  · rw [kn_get _ hn2, List.getElem?_replicate, if_pos hn2]
    unfold stV
    split
    · rfl
    · rename_i x hx
      rw [if_neg]
      rintro ⟨_, h, _⟩
      have : x = fresh 0 := by
        have := List.mem_of_getElem? hx
        exact List.eq_of_mem_replicate this
      subst this
      exact absurd h (by decide)
  · rw [List.getElem?_eq_none (by rw [kn_len]; omega), List.getElem?_eq_none (by rw [List.length_replicate]; omega)]
theorem kn_setL {S : List Nd} (hl : S.length = 128) (a W : Int) : kn (setL S a W) = if setC S a W = 0 then (kn S).set a.toNat false else kn S := by
  by_cases hc : setC S a W = 0
  · rw [if_pos hc, setL_ok hc]
    have ha : ndB a = true := by
      cases q : ndB a with
      | true => rfl
      | false => rw [setC_bad (.inl q)] at hc; cases hc
    have h2 := ndB_of ha
    rw [kn_set (by omega) (by rw [show ((a.toNat : Nat) : Int) = a from by omega]; exact ha)]
    simp [fresh, Nd.on]
  · rw [if_neg hc, setL_no hc]
theorem play_hear {S : List Nd} (hl : S.length = 128) (i n d0 d1 d2 d3 d4 d5 d6 d7 : Int) (r : Bool) (now : Int) : play (kn S) (match hearE S (btB i n d0 d1 d2 d3 d4 d5 d6 d7 r) i d0 now with | none => [] | some e => [e]) = some (kn (hearL S (btB i n d0 d1 d2 d3 d4 d5 d6 d7 r) i d0 now)) := by
  cases hh : heard S (btB i n d0 d1 d2 d3 d4 d5 d6 d7 r) i now with
  | none => unfold hearE hearL; rw [hh]; rfl
  | some x =>
    have hb : btB i n d0 d1 d2 d3 d4 d5 d6 d7 r = true := by
      cases q : btB i n d0 d1 d2 d3 d4 d5 d6 d7 r with
      | true => rfl
      | false => rw [q, heard_no (.inl rfl)] at hh; cases hh
    have ht : tmB now = true := by
      cases q : tmB now with
      | true => rfl
      | false => rw [heard_no (.inr q)] at hh; cases hh
    have ha := (btB_of hb).1
    have h2 := ndB_of ha
    obtain ⟨k, hk⟩ : ∃ k : Nat, i - 1792 = (k : Int) := ⟨(i - 1792).toNat, by omega⟩
    obtain ⟨y, hy⟩ : ∃ y, S[k]? = some y := ⟨_, List.getElem?_eq_getElem (by omega)⟩
    have ek : (i - 1792).toNat = k := by omega
    have hW : 0 < x.W ∧ y = x := by
      rw [hb, heard_at ht (x := y) (by rw [ek]; exact hy)] at hh
      split at hh
      · rename_i h; cases hh; exact ⟨h, rfl⟩
      · cases hh
    obtain ⟨hW, rfl⟩ := hW
    rw [hk] at ha
    have kk := stV_at hy ha
    have kx : (kn S)[k]? = some (stV S (k : Int)).2 := kn_get S (by omega)
    have ks := kn_set (S := S) (k := k) (x := y.beat d0 now) (by omega) ha
    unfold hearE hearL
    rw [hh]
    dsimp only
    rw [ek, ks]
    have hb2 : (decide (0 < (y.beat d0 now).W) && (y.beat d0 now).on) = true := by simp [Nd.beat, Nd.on, hW]
    rw [hb2]
    by_cases hz : newsK y d0 = 0
    · rw [if_pos hz]
      have hon : y.on = true := by
        cases q : y.on with
        | true => rfl
        | false => unfold newsK at hz; rw [if_pos q] at hz; cases hz
      show some (kn S) = _
      rw [set_same (by rw [kx, kk]; simp [hW, hon])]
    · rw [if_neg hz]
      simp only [play]
      rw [hk, show ((k : Int)).toNat = k from by omega, kx, kk]
      simp only [Option.getD, hW, decide_true, Bool.true_and]
      have h4 : (newsK y d0 != 4) = true := by
        unfold newsK
        split
        · rfl
        · split
          · rfl
          · split <;> rfl
      rw [h4, if_neg]
      cases q : y.on with
      | false => unfold newsK; rw [if_pos q]; decide
      | true =>
        unfold newsK
        rw [if_neg (by simp [q])]
        split
        · decide
        · split <;> decide
theorem play_tick {S : List Nd} (hl : S.length = 128) (hz : Z0 S) (now : Int) : ∀ k, k ≤ 128 → play (kn S) (evK now S k) = some (kn (tickK now S k))
  | 0, _ => by simp [evK, play, tickK]
  | k + 1, hk => by
    have ih := play_tick hl hz now k (by omega)
    obtain ⟨x, hx⟩ : ∃ x, S[k]? = some x := ⟨_, List.getElem?_eq_getElem (by omega)⟩
    cases hg : goneB x now with
    | false => rw [evK_no hx hg, tickK_no hx hg, ih]
    | true =>
      have gg : 0 < x.W ∧ x.on = true := by simp [goneB] at hg; exact ⟨hg.1, hg.2.1⟩
      have hn : ndB (k : Int) = true := ndB_t (by
        rcases Nat.eq_zero_or_pos k with rfl | h
        · have := hz x hx; omega
        · omega) (by omega)
      have hT : (tickK now S k).length = 128 := by simp [tickK]; omega
      have hx2 := tickK_at (now := now) hx
      rw [evK_yes hx hg, play_app, ih]
      show play (kn (tickK now S k)) [⟨(k : Int), 4, x.s⟩] = _
      simp only [play]
      rw [show ((k : Int)).toNat = k from by omega, kn_get _ (by omega), stV_at hx2 hn, ← tickK_set hx, kn_set (by omega) hn]
      have : (decide (0 < (x.tick now).W) && (x.tick now).on) = false := by
        have : x.tick now = { x with g := true } := by unfold Nd.tick; rw [if_pos hg]
        rw [this]
        simp [Nd.on]
      rw [this, if_neg]
      · rfl
      · simp [gg]
theorem evK_good (now : Int) (S : List Nd) : ∀ k, k ≤ 128 → ∀ e ∈ evK now S k, 0 ≤ e.n ∧ e.n < 256
  | 0, _, e, he => by cases he
  | k + 1, hk, e, he => by
    have ih := evK_good now S k (by omega)
    simp only [evK] at he
    split at he
    · exact ih e he
    · split at he
      · rcases List.mem_append.1 he with h | h
        · exact ih e h
        · simp at h
          subst h
          show 0 ≤ (k : Int) ∧ (k : Int) < 256
          omega
      · exact ih e he
theorem play_cons {H HF : List Bool} {l : List Ev} {j : Nat} {e : Ev} (he : l[j]? = some e) (h : play H (l.drop j) = some HF) : (H[e.n.toNat]?.getD false == (e.k == 1)) = false ∧ play (H.set e.n.toNat (e.k != 4)) (l.drop (j + 1)) = some HF := by
  obtain ⟨hj, rfl⟩ := List.getElem?_eq_some_iff.1 he
  rw [List.drop_eq_getElem_cons hj] at h
  simp only [play] at h
  split at h
  · cases h
  · rename_i hn
    exact ⟨by simpa using hn, h⟩
/-- The law's row of those that are here. -/
def BR (H : List Bool) : Array Value := (H.map Value.bool).toArray
theorem BR_cell {w : World} {hb n : Nat} {H : List Bool} {b : Bool} (h : w.heap[hb]? = some (.cells (BR H) 4 (0, 0))) (hn : H[n]? = some b) : w.cell? ⟨hb, n, none⟩ = some (.bool b) := by
  rw [cell_of_row w hb n _ _ _ h]
  simp [BR, hn]
theorem BR_set {w : World} {hb n : Nat} {H : List Bool} (b : Bool) (h : w.heap[hb]? = some (.cells (BR H) 4 (0, 0))) : (w.setCell ⟨hb, n, none⟩ (.bool b)).heap[hb]? = some (.cells (BR (H.set n b)) 4 (0, 0)) := by
  rw [heap_setCell_same _ _ _ _ _ _ h]
  simp [BR]
/-- The watch stands for one row, the law's row for another. -/
structure Tn (w : World) (p hb : Nat) (S : List Nd) (H : List Bool) : Prop where
  w_ : ∃ P, IsW w p p P S
  h : w.heap[hb]? = some (.cells (BR H) 4 (0, 0))
  l : H.length = 256
theorem Tn.next {w w' : World} {p hb : Nat} {S : List Nd} {H : List Bool} (t : Tn w p hb S H) (hk : Below w.heap.size w w') : Tn w' p hb S H := by
  obtain ⟨⟨P, h1⟩, h2, h3⟩ := t
  exact ⟨⟨P, h1.next hk⟩, blk11 hk h2, h3⟩
theorem Tn.toW {w w' : World} {p hb : Nat} {S S' : List Nd} {H : List Bool} (t : Tn w p hb S H) (h1 : ∃ P, IsW w' p p P S') (hk : Kt p w w') : Tn w' p hb S' H := ⟨h1, hk.typ _ _ _ _ t.h (by decide) (by decide), t.l⟩
theorem Tn.put {w : World} {p hb : Nat} {S : List Nd} {H : List Bool} (t : Tn w p hb S H) (n : Nat) (b : Bool) : Tn (w.setCell ⟨hb, n, none⟩ (.bool b)) p hb S (H.set n b) := by
  obtain ⟨⟨P, h1⟩, h2, h3⟩ := t
  exact ⟨⟨P, h1.kp ((Kp.refl [hb] _).set _ _ (.inl (by simp))) h2 (by decide) (by decide)⟩, BR_set b h2, by simp [h3]⟩
theorem Tn.oth {w w' : World} {p hb g : Nat} {S : List Nd} {H : List Bool} {C : Array Value} {T : TypeId} {f : Nat × Nat} (t : Tn w p hb S H) (hk : Kp [g] w w') (hg : w.heap[g]? = some (.cells C T f)) (h1 : T ≠ 81) (h2 : T ≠ 87) (h3 : T ≠ 4) : Tn w' p hb S H := by
  obtain ⟨⟨P, a⟩, b, c⟩ := t
  exact ⟨⟨P, a.kp hk hg h1 h2⟩, hk.keep hg b (fun e => h3 e.symm), c⟩
theorem Rw.cells {w : World} {T : TypeId} {g o j i : Nat} {l : List Ev} {e : Ev} (h : Rw w T g o j l) (hj : j ≤ i) (hi : l[i]? = some e) : w.cell? ⟨g, o + i * 3, none⟩ = some (.int .u8 e.n) ∧ w.cell? ⟨g, o + i * 3 + 1, none⟩ = some (.int .u8 e.k) := by
  obtain ⟨cur, c1, c2, c3⟩ := h.cur
  have hl := (List.getElem?_eq_some_iff.1 hi).1
  have e3 := c3 i e hj hi
  have at_ : ∀ c, c < 3 → cur[o + i * 3 + c]? = e.C[c]? := fun c hc => by
    rw [← e3, List.getElem?_take_of_lt hc, List.getElem?_drop, Array.getElem?_toList]
  refine ⟨?_, ?_⟩
  · rw [cell_of_row w g _ _ _ _ c1]
    exact at_ 0 (by decide)
  · rw [cell_of_row w g _ _ _ _ c1]
    exact at_ 1 (by decide)
theorem turn_step {w wr : World} {p hb g o j m : Nat} {S' : List Nd} {HH : List Bool} {l : List Ev} {b : Bool} {HF : List Bool} (B : Below w.heap.size w wr) (L : p ≤ wr.heap.size) (t : Tn wr p hb S' HH) (r : Rw wr 54 g o j l) (pl : play (HH.set m b) (l.drop (j + 1)) = some HF) (hh : w.heap.size ≤ hb) (n : Nat) :
    Below w.heap.size w ((wr.drewN n).setCell ⟨hb, m, none⟩ (.bool b)) ∧ p ≤ ((wr.drewN n).setCell ⟨hb, m, none⟩ (.bool b)).heap.size ∧ Tn ((wr.drewN n).setCell ⟨hb, m, none⟩ (.bool b)) p hb S' (HH.set m b) ∧ Rw ((wr.drewN n).setCell ⟨hb, m, none⟩ (.bool b)) 54 g o (j + 1) l ∧ play (HH.set m b) (l.drop (j + 1)) = some HF := by
  have D : Below wr.heap.size wr (wr.drewN n) := below_drewN (Below.refl _ _) n
  have t2 := t.next D
  have r2 := r.next D
  refine ⟨Below.setCell (Below.andThen B D) hh _, by have := D.size; simp [World.setCell]; omega, t2.put m b, ?_, pl⟩
  obtain ⟨cur, c1, c2⟩ := r2.succ.cur
  exact ⟨cur, (Below.heap_setCell _ _ _ _ (fun e => by have e : g = hb := by simpa using e
                                                       rw [e, t2.h] at c1
                                                       simp at c1)).trans c1, c2⟩
theorem set_tn {p hb : Nat} {S : List Nd} (hz : Z0 S) (hl : S.length = 128) (a W : Int) (ha : 0 ≤ a) : ∃ (rs : Int) (S' : List Nd), Z0 S' ∧ (rs = 0 → kn S' = (kn S).set a.toNat false) ∧ (rs ≠ 0 → kn S' = kn S) ∧
    ∀ w, Tn w p hb S (kn S) → p ≤ w.heap.size → Calls Try.prog 18 #[pt p, .int .u8 a, .int .i64 W] w fun e w' => e = .returned (.int .i64 rs) ∧ Tn w' p hb S' (kn S) ∧ Kt p w w' := by
  have hk := kn_setL hl a W
  refine ⟨setC S a W, setL S a W, hz.setL a W, fun h => by rw [hk, if_pos h], fun h => by rw [hk, if_neg h], fun w h hp => ?_⟩
  obtain ⟨P, h1⟩ := h.w_
  refine (set_any h1 hp a W ha).mono ?_
  rintro e w' ⟨rfl, h2, h3⟩
  exact ⟨rfl, h.toW h2 h3, h3⟩
theorem hear_tn {p hb : Nat} {S : List Nd} (hz : Z0 S) (hl : S.length = 128) (f : Hx) (hi : 0 ≤ f.i ∧ f.i < 65536) (hd : 0 ≤ f.d0 ∧ f.d0 < 256) (now : Int) : ∃ (ea ek es : Int) (ok : Bool) (S' : List Nd), Z0 S' ∧ (ok = false → kn S = kn S') ∧ (ok = true → (0 ≤ ea ∧ ea < 256) ∧ play (kn S) [⟨ea, ek, es⟩] = some (kn S')) ∧
    ∀ w, Tn w p hb S (kn S) → Calls Try.prog 20 #[pt p, f.V, .int .i64 now] w fun e w' => e = .returned (.tuple #[.agg (evA ea ek es), .bool ok]) ∧ Tn w' p hb S' (kn S) ∧ Kt p w w' := by
  have hp := play_hear hl f.i f.n f.d0 f.d1 f.d2 f.d3 f.d4 f.d5 f.d6 f.d7 f.r now
  have go : ∀ w, Tn w p hb S (kn S) → Calls Try.prog 20 #[pt p, f.V, .int .i64 now] w fun e w' => e = .returned (eoV (hearE S (btB f.i f.n f.d0 f.d1 f.d2 f.d3 f.d4 f.d5 f.d6 f.d7 f.r) f.i f.d0 now)) ∧ Tn w' p hb (hearL S (btB f.i f.n f.d0 f.d1 f.d2 f.d3 f.d4 f.d5 f.d6 f.d7 f.r) f.i f.d0 now) (kn S) ∧ Kt p w w' := fun w h => by
    obtain ⟨P, h1⟩ := h.w_
    refine (hear_any h1 f.i f.n f.d0 f.d1 f.d2 f.d3 f.d4 f.d5 f.d6 f.d7 f.r now hi hd).mono ?_
    rintro e w' ⟨rfl, h2, h3⟩
    exact ⟨rfl, h.toW h2 h3, h3⟩
  have gd : ∀ e, hearE S (btB f.i f.n f.d0 f.d1 f.d2 f.d3 f.d4 f.d5 f.d6 f.d7 f.r) f.i f.d0 now = some e → 0 ≤ e.n ∧ e.n < 256 := fun e he => by
    unfold hearE at he
    cases q : btB f.i f.n f.d0 f.d1 f.d2 f.d3 f.d4 f.d5 f.d6 f.d7 f.r with
    | false => rw [q, heard_no (.inl rfl)] at he; cases he
    | true =>
      have h2 := ndB_of (btB_of q).1
      split at he
      · cases he
      · split at he
        · cases he
        · cases he
          show 0 ≤ f.i - 1792 ∧ f.i - 1792 < 256
          omega
  cases hE : hearE S (btB f.i f.n f.d0 f.d1 f.d2 f.d3 f.d4 f.d5 f.d6 f.d7 f.r) f.i f.d0 now with
  | none =>
    rw [hE] at go hp
    exact ⟨0, 0, 0, false, _, hz.hear _ _, fun _ => Option.some.inj hp, fun h => (by cases h), go⟩
  | some e =>
    rw [hE] at go hp
    exact ⟨e.n, e.k, e.s, true, _, hz.hear _ _, fun h => (by cases h), fun _ => ⟨gd e hE, hp⟩, go⟩
theorem tick_tn {p hb : Nat} {S : List Nd} (hz : Z0 S) (hl : S.length = 128) (now : Int) : ∃ (l : List Ev) (S' : List Nd), Z0 S' ∧ l.length ≤ 128 ∧ play (kn S) l = some (kn S') ∧ (∀ e ∈ l, 0 ≤ e.n ∧ e.n < 256) ∧
    ∀ w, Tn w p hb S (kn S) → Calls Try.prog 24 #[pt p, .int .i64 now] w fun e w' => ∃ v, e = .returned v ∧ IsEv w' v l ∧ Tn w' p hb S' (kn S) ∧ Kt p w w' := by
  cases ht : tmB now with
  | false =>
    refine ⟨[], S, hz, by simp, rfl, fun e he => (by cases he), fun w h => ?_⟩
    refine (wtick_bad p now ht w).mono ?_
    rintro e w' ⟨rfl, hk⟩
    exact ⟨_, rfl, own_nil _ _ _, h.next hk, Kt.of hk⟩
  | true =>
    have hp := play_tick hl hz now 128 (Nat.le_refl _)
    rw [tickK_all now hl] at hp
    refine ⟨evK now S 128, S.map (·.tick now), hz.tick now, evK_len now S 128, hp, evK_good now S 128 (Nat.le_refl _), fun w h => ?_⟩
    obtain ⟨P, h1⟩ := h.w_
    refine (wtick_ok h1 now ht).mono ?_
    rintro e w' ⟨v, rfl, t⟩
    exact ⟨v, rfl, t.ev, h.toW ⟨P, t.st⟩ t.k, t.k⟩
theorem Tn.sl {w : World} {p hb : Nat} {S : List Nd} {H : List Bool} (t : Tn w p hb S H) : S.length = 128 := by
  obtain ⟨⟨P, h1⟩, _⟩ := t
  exact h1.sl
#print axioms hear_tn
#print axioms tick_tn
#print axioms play_tick
#print axioms play_hear
#print axioms kn_setL
end Go.Proofs.Ytjdfacjfpdfafaa
