/-
  Words written where all is blank; sectors erased: what is left, also where the power went.
  Sectors of a flash that was written to; what a half tells behind a record more.
  A region filled: what is left, also where the power went.
  A region filled whole; a record brought to the flash: what an opening finds behind it.
  A record brought to the flash: what an opening finds behind it.
  Store and Restore, held against the document's journal, plainly.
  The document's Store and Restore, plainly; what the program's do beside them.
-/
import Derived.Test.YtgpbmccjcjoijaaJx
namespace Go.Proofs.Ytgpbmccjcjoijaa
open Go.RowKit

theorem put_more {α : Type} (l m r : List α) (o : Nat) (h : o + m.length + r.length ≤ l.length) : put (put l o m) (o + m.length) r = put l o (m ++ r) := by
  have hl : (put l o m).length = l.length := put_len _ _ _ (by omega)
  apply List.ext_getElem?
  intro i
  rw [put_at _ _ _ _ (by omega), put_at _ _ _ _ (by omega), put_at _ _ _ _ (by rw [List.length_append]; omega)]
  rw [List.length_append]
  by_cases a : o + m.length ≤ i ∧ i < o + m.length + r.length
  · rw [if_pos a, if_pos (by omega), List.getElem?_append_right (by omega)]
    congr 1; omega
  · rw [if_neg a]
    by_cases b : o ≤ i ∧ i < o + m.length
    · rw [if_pos b, if_pos (by omega), List.getElem?_append_left (by omega)]
    · rw [if_neg b, if_neg (by omega)]
theorem An_ff : ∀ x : Fin 256, An (x.val : Int) 255 = (x.val : Int) := by decide +kernel
theorem an_ff {b : Int} (h : 0 ≤ b ∧ b < 256) : An b 255 = b := by
  have := An_ff ⟨b.toNat, by omega⟩
  rwa [show ((b.toNat : Nat) : Int) = b by omega] at this
theorem fall_ff {b0 b1 b2 b3 : Int} (h0 : 0 ≤ b0 ∧ b0 < 256) (h1 : 0 ≤ b1 ∧ b1 < 256) (h2 : 0 ≤ b2 ∧ b2 < 256) (h3 : 0 ≤ b3 ∧ b3 < 256) : fallB 255 255 255 255 b0 b1 b2 b3 = true := by
  unfold fallB
  rw [an_ff h0, an_ff h1, an_ff h2, an_ff h3]
  simp [same4]
/-- What a step leaves. -/
theorem step_res (s : FS) (cs' : List Int) (ho : s.of = false) : (∃ t, s.step cs' = (0, t) ∧ t.cs = cs' ∧ t.of = false ∧ t.ar = s.ar) ∨ (∃ t, s.step cs' = (7, t) ∧ t.cs = s.cs ∧ t.of = true ∧ s.ar = true) := by
  unfold FS.step
  split
  · rename_i h; exact .inr ⟨_, rfl, rfl, rfl, h.1⟩
  · exact .inl ⟨_, rfl, rfl, ho, rfl⟩
/-- Words written where all is blank. -/
theorem regW_res (n first : Nat) : ∀ (k : Nat) (b : List Int) (at_ : Nat) (s : FS), b.length = 4 * k → at_ % 4 = 0 → Oct b → s.of = false → s.cs.length = 1024 * n → 1024 * first + at_ + b.length ≤ 1024 * n → (∀ i, i < b.length → s.cs.getD (1024 * first + at_ + i) 0 = 255) →
    (∃ t, regW n first b at_ s = (0, t) ∧ t.cs = put s.cs (1024 * first + at_) b ∧ t.of = false ∧ t.ar = s.ar) ∨ (∃ t m, regW n first b at_ s = (7, t) ∧ 4 * m < b.length ∧ t.cs = put s.cs (1024 * first + at_) (b.take (4 * m)) ∧ t.of = true ∧ s.ar = true) := by
  intro k
  induction k with
  | zero =>
    intro b at_ s hb _ _ ho _ _ _
    have : b = [] := List.eq_nil_of_length_eq_zero (by omega)
    subst this
    exact .inl ⟨s, rfl, by simp [put], ho, rfl⟩
  | succ k ih =>
    intro b at_ s hb h4 hO ho hn hl hff
    match b, hb with
    | b0 :: b1 :: b2 :: b3 :: rest, hb =>
      have hr : rest.length = 4 * k := by simp at hb; omega
      have o0 := hO b0 (by simp)
      have o1 := hO b1 (by simp)
      have o2 := hO b2 (by simp)
      have o3 := hO b3 (by simp)
      have f0 := hff 0 (by simp)
      have f1 := hff 1 (by simp)
      have f2 := hff 2 (by simp)
      have f3 := hff 3 (by simp)
      have ek : ((first + at_ / 1024 : Nat) : Int).toNat * 1024 + ((at_ % 1024 / 4 : Nat) : Int).toNat * 4 = 1024 * first + at_ := by
        simp only [Int.toNat_natCast]; omega
      have hl' : 1024 * first + at_ + 4 + rest.length ≤ 1024 * n := by simp at hl; omega
      have hw : s.write n ((first + at_ / 1024 : Nat) : Int) ((at_ % 1024 / 4 : Nat) : Int) b0 b1 b2 b3 = s.step (put s.cs (1024 * first + at_) [b0, b1, b2, b3]) := by
        unfold FS.write
        rw [if_neg (by rw [refE_ok ho n _ _ (by omega) (by omega) (by omega) (by omega)]; simp), ek, f1, f2, f3]
        rw [show s.cs.getD (1024 * first + at_) 0 = 255 from f0, if_pos (fall_ff o0 o1 o2 o3)]
      rcases step_res s (put s.cs (1024 * first + at_) [b0, b1, b2, b3]) ho with ⟨t, e, hc, hof, har⟩ | ⟨t, e, hc, hof, har⟩
      · rw [e] at hw
        rw [regW_cons n first at_ s b0 b1 b2 b3 rest hw, if_pos rfl]
        have hp : (put s.cs (1024 * first + at_) [b0, b1, b2, b3]).length = s.cs.length := put_len _ _ _ (by simp; omega)
        rcases ih rest (at_ + 4) t hr (by omega) (fun x hx => hO x (by simp [hx])) hof (by rw [hc, hp, hn]) (by omega) (fun i hi => by
            rw [hc, put_getD _ _ _ _ (by simp; omega), if_neg (by simp; omega)]
            have := hff (4 + i) (by simp; omega)
            rwa [show 1024 * first + at_ + (4 + i) = 1024 * first + (at_ + 4) + i by omega] at this) with ⟨u, e2, c2, of2, ar2⟩ | ⟨u, m, e2, hm, c2, of2, ar2⟩
        · refine .inl ⟨u, e2, ?_, of2, ar2.trans har⟩
          rw [c2, hc]
          have := put_more s.cs [b0, b1, b2, b3] rest (1024 * first + at_) (by simp; omega)
          rw [show 1024 * first + (at_ + 4) = 1024 * first + at_ + [b0, b1, b2, b3].length by simp; omega, this]
          rfl
        · refine .inr ⟨u, m + 1, e2, by simp; omega, ?_, of2, har ▸ ar2⟩
          rw [c2, hc]
          have := put_more s.cs [b0, b1, b2, b3] (rest.take (4 * m)) (1024 * first + at_) (by simp; omega)
          rw [show 1024 * first + (at_ + 4) = 1024 * first + at_ + [b0, b1, b2, b3].length by simp; omega, this]
          rfl
      · rw [e] at hw
        rw [regW_cons n first at_ s b0 b1 b2 b3 rest hw, if_neg (by decide)]
        exact .inr ⟨t, 0, rfl, by simp, by simp [put, hc], hof, har⟩
/-- Sectors erased. -/
theorem regE_res (n first : Nat) : ∀ (k i : Nat) (s : FS), s.of = false → s.cs.length = 1024 * n → first + i + k ≤ n →
    (∃ t, regE n first k i s = (0, t) ∧ t.cs = put s.cs (1024 * (first + i)) (List.replicate (1024 * k) 255) ∧ t.of = false ∧ t.ar = s.ar) ∨ (∃ t m, regE n first k i s = (7, t) ∧ m < k ∧ t.cs = put s.cs (1024 * (first + i)) (List.replicate (1024 * m) 255) ∧ t.of = true ∧ s.ar = true) := by
  intro k
  induction k with
  | zero => intro i s ho _ _; exact .inl ⟨s, rfl, by simp [put], ho, rfl⟩
  | succ k ih =>
    intro i s ho hn hl
    have hw : s.erase n ((first + i : Nat) : Int) = s.step (put s.cs (1024 * (first + i)) ff) := by
      unfold FS.erase
      rw [if_neg (by rw [refE_ok ho n _ _ (by omega) (by omega) (by omega) (by omega)]; simp)]
      rw [Int.toNat_natCast, Nat.mul_comm]
    have hf : ff.length = 1024 := List.length_replicate
    rcases step_res s (put s.cs (1024 * (first + i)) ff) ho with ⟨t, e, hc, hof, har⟩ | ⟨t, e, hc, hof, har⟩
    · rw [e] at hw
      rw [regE_succ n first k i s hw, if_pos rfl]
      have hp : (put s.cs (1024 * (first + i)) ff).length = s.cs.length := put_len _ _ _ (by omega)
      have J : ∀ m, m ≤ k → put (put s.cs (1024 * (first + i)) ff) (1024 * (first + (i + 1))) (List.replicate (1024 * m) 255) = put s.cs (1024 * (first + i)) (List.replicate (1024 * (m + 1)) 255) := fun m hm => by
        have := put_more s.cs ff (List.replicate (1024 * m) 255) (1024 * (first + i)) (by simp; omega)
        rw [show 1024 * (first + (i + 1)) = 1024 * (first + i) + ff.length by omega, this]
        unfold ff
        rw [List.replicate_append_replicate, show 1024 + 1024 * m = 1024 * (m + 1) by omega]
      rcases ih (i + 1) t hof (by rw [hc, hp, hn]) (by omega) with ⟨u, e2, c2, of2, ar2⟩ | ⟨u, m, e2, hm, c2, of2, ar2⟩
      · exact .inl ⟨u, e2, by rw [c2, hc, J k (by omega)], of2, ar2.trans har⟩
      · exact .inr ⟨u, m + 1, e2, by omega, by rw [c2, hc, J m (by omega)], of2, har ▸ ar2⟩
    · rw [e] at hw
      rw [regE_succ n first k i s hw, if_neg (by decide)]
      exact .inr ⟨t, 0, rfl, by omega, by simp [put, hc], hof, har⟩
/-- What was cut is none, also where something stands behind it. -/
theorem dec_cut2 {r : Rec} (hr : r.Ok) (m : Nat) (hm : 4 * m < rm r.bs.length) (t : List Int) (ht : ∀ i, i + 4 * m < rm r.bs.length → t.getD i 0 = 255) : dec ((enc r).take (4 * m) ++ t) = none := by
  have hL := enc_len r
  have g := rm_ge r.bs.length
  have f4 := rm_four r.bs.length
  rcases Nat.eq_zero_or_pos m with h0 | hp
  · subst h0
    exact dec_blank4 (by simpa using ht 2 (by omega)) (by simpa using ht 3 (by omega))
  · have hl := hr.len
    have hB : ∃ u, (enc r).take (4 * m) = hd4 r ++ u := by
      refine ⟨((enc r).take (4 * m)).drop 4, ?_⟩
      have : hd4 r = ((enc r).take (4 * m)).take 4 := by
        rw [List.take_take, Nat.min_eq_left (by omega)]; simp [enc, hd8, hd4]
      rw [this, List.take_append_drop]
    obtain ⟨u, hu⟩ := hB
    have n : nOf ((enc r).take (4 * m) ++ t) = r.bs.length := by rw [hu]; simp [nOf, hd4]; omega
    unfold dec
    rw [n, if_neg]
    rintro ⟨-, -, -, h4, h5⟩
    have hq : (recAt ((enc r).take (4 * m) ++ t)).bs.length = r.bs.length := by
      unfold recAt
      rw [n]
      simp only [List.length_take, List.length_drop]
      omega
    have e1 : (enc (recAt ((enc r).take (4 * m) ++ t)))[rm r.bs.length - 4]? = some 107 := by
      generalize recAt ((enc r).take (4 * m) ++ t) = q at hq
      unfold enc
      rw [List.getElem?_append_right (by simp [hd8]; omega), List.getElem?_append_right (by simp [hd8, hq]; omega), List.getElem?_append_right (by simp [hd8, hq, pad_len]; omega)]
      have : rm r.bs.length - 4 - (hd8 q).length - q.bs.length - (pad q.bs.length).length = 0 := by simp [hd8, hq, pad_len]; omega
      rw [this]; rfl
    rw [h5, List.getElem?_take, if_pos (by omega), List.getElem?_append_right (by simp; omega)] at e1
    have := ht (rm r.bs.length - 4 - ((enc r).take (4 * m)).length) (by simp; omega)
    rw [List.getD_eq_getElem?_getD, e1] at this
    simp at this
#print axioms regW_res
#print axioms regE_res
#print axioms dec_cut2
end Go.Proofs.Ytgpbmccjcjoijaa
namespace Go.Proofs.Ytgpbmccjcjoijaa
open Go.RowKit

theorem part_at (cs : List Int) (first k i : Nat) : (part cs first k)[i]? = if i < 1024 * k then cs[1024 * first + i]? else none := by
  unfold part
  rw [List.getElem?_take]
  split
  · rw [List.getElem?_drop]
  · rfl
theorem part_len' {cs : List Int} {first k : Nat} (h : 1024 * (first + k) ≤ cs.length) : (part cs first k).length = 1024 * k := by
  unfold part; simp; omega
theorem part_put {cs b : List Int} {first k a : Nat} (h : a + b.length ≤ 1024 * k) (hl : 1024 * (first + k) ≤ cs.length) : part (put cs (1024 * first + a) b) first k = put (part cs first k) a b := by
  apply List.ext_getElem?
  intro i
  have e := part_len' hl
  rw [part_at, put_at _ _ _ _ (by omega), put_at _ _ _ _ (by omega), part_at]
  by_cases hi : i < 1024 * k
  · rw [if_pos hi, if_pos hi]
    by_cases c : a ≤ i ∧ i < a + b.length
    · rw [if_pos c, if_pos (by omega)]; congr 1; omega
    · rw [if_neg c, if_neg (by omega)]
  · rw [if_neg hi, if_neg hi, if_neg (by omega)]
theorem part_far {cs b : List Int} {first k o : Nat} (h : o + b.length ≤ 1024 * first ∨ 1024 * (first + k) ≤ o) (hl : o + b.length ≤ cs.length) : part (put cs o b) first k = part cs first k := by
  apply List.ext_getElem?
  intro i
  rw [part_at, part_at]
  by_cases hi : i < 1024 * k
  · rw [if_pos hi, if_pos hi, put_at _ _ _ _ hl, if_neg (by omega)]
  · rw [if_neg hi, if_neg hi]
theorem part_getD {cs : List Int} {first k i : Nat} (h : i < 1024 * k) : (part cs first k).getD i 0 = cs.getD (1024 * first + i) 0 := by
  rw [List.getD_eq_getElem?_getD, List.getD_eq_getElem?_getD, part_at, if_pos h]
/-- Behind the records of a half that has room for one more all is blank. -/
theorem look_tail {b : List Int} (ho : Oct b) (hb : (look b).bg = true) (hr : (look b).en < b.length) : begunR (recs b) = true ∧ (look b).en = roomR (recs b) ∧ (look b).num = numR (recs b) ∧ (look b).gs = takes all0 (recs b) ∧ ∃ t, b = encs (recs b) ++ t ∧ (∀ x ∈ t, x = 255) ∧ (∀ r ∈ recs b, r.Ok) := by
  have hp := Parts.of ho
  by_cases hg : begunR (recs b) = true
  · have e := look_of hp hg
    rw [e] at hr ⊢
    have hr : endOf b (roomR (recs b)) < b.length := hr
    by_cases hk : blank (b.drop (roomR (recs b))) = true
    · refine ⟨hg, ?_, rfl, rfl, _, hp.eq, ?_, hp.ok⟩
      · show endOf b (roomR (recs b)) = _; unfold endOf; rw [if_pos hk]
      · rw [encs_len]; exact blank_iff.1 hk
    · unfold endOf at hr; rw [if_neg hk] at hr; omega
  · rw [look_not (by simpa using hg)] at hb; cases hb
theorem look_four {b : List Int} (h4 : b.length % 4 = 0) : (look b).en % 4 = 0 := by
  have R : ∀ rs : List Rec, roomR rs % 4 = 0 := fun rs => by
    induction rs with
    | nil => rfl
    | cons r rs ih => have := rm_four r.bs.length; simp only [roomR, List.map_cons, List.sum_cons] at ih ⊢; omega
  have E : ∀ e, e % 4 = 0 → endOf b e % 4 = 0 := fun e he => by unfold endOf; split <;> assumption
  unfold look
  split
  · exact E _ (R _)
  · exact E _ rfl
/-- What a half tells of records with nothing behind them. -/
theorem look_encs {rs : List Rec} {t : List Int} (hok : ∀ r ∈ rs, r.Ok) (ht : ∀ x ∈ t, x = 255) (hg : begunR rs = true) : look (encs rs ++ t) = ⟨true, numR rs, roomR rs, takes all0 rs⟩ := by
  rw [look_of (rs := rs) (t := t) ⟨rfl, hok, dec_blank ht⟩ hg]
  congr 1
  unfold endOf
  rw [if_pos]
  rw [← encs_len, List.drop_left]
  exact blank_iff.2 ht
theorem begunR_app {rs rs' : List Rec} (h : begunR rs = true) : begunR (rs ++ rs') = true ∧ numR (rs ++ rs') = numR rs := by
  cases rs with
  | nil => cases h
  | cons r rs => exact ⟨h, rfl⟩
/-- A record more. -/
theorem look_add {b : List Int} (ho : Oct b) (hb : (look b).bg = true) {r : Rec} (hr : r.Ok) (hf : (look b).en + rm r.bs.length ≤ b.length) : look (put b (look b).en (enc r)) = ⟨true, (look b).num, (look b).en + rm r.bs.length, take1 (look b).gs r⟩ ∧ (∀ i, i < rm r.bs.length → b.getD ((look b).en + i) 0 = 255) := by
  have h12 := rm_ge r.bs.length
  obtain ⟨hg, e1, e2, e3, t, ht, h255, hok⟩ := look_tail ho hb (by omega)
  rw [e1] at hf
  rw [e1, e2, e3]
  clear e1 e2 e3 hb ho
  generalize recs b = rs at *
  subst ht
  rw [List.length_append, encs_len] at hf
  have hL := enc_len r
  constructor
  · have : put (encs rs ++ t) (roomR rs) (enc r) = encs (rs ++ [r]) ++ t.drop (rm r.bs.length) := by
      unfold put
      rw [encs_app, ← encs_len, List.take_left, List.drop_append, hL, List.drop_of_length_le (by omega), show (encs rs).length + rm r.bs.length - (encs rs).length = rm r.bs.length by omega]
      simp [encs]
    rw [this, look_encs (fun x hx => by rcases List.mem_append.1 hx with h | h; exact hok x h; simp at h; subst h; exact hr) (fun x hx => h255 x (List.mem_of_mem_drop hx)) (begunR_app hg).1, (begunR_app hg).2, takes_snoc]
    congr 1
    simp [roomR]
  · intro i hi
    rw [List.getD_eq_getElem?_getD, List.getElem?_append_right (by rw [encs_len]; omega), encs_len, show roomR rs + i - roomR rs = i by omega, List.getElem?_eq_getElem (show i < t.length by omega)]
    exact h255 _ (List.getElem_mem _)
/-- A record that was cut. -/
theorem look_cut {b : List Int} (ho : Oct b) (hb : (look b).bg = true) {r : Rec} (hr : r.Ok) (hf : (look b).en + rm r.bs.length ≤ b.length) (m : Nat) (hm : 4 * m < rm r.bs.length) : ∃ e, look (put b (look b).en ((enc r).take (4 * m))) = ⟨true, (look b).num, e, (look b).gs⟩ := by
  have h12 := rm_ge r.bs.length
  obtain ⟨hg, e1, e2, e3, t, ht, h255, hok⟩ := look_tail ho hb (by omega)
  rw [e1] at hf
  rw [e1, e2, e3]
  clear e1 e2 e3 hb ho
  generalize recs b = rs at *
  subst ht
  rw [List.length_append, encs_len] at hf
  have hL := enc_len r
  have hl : ((enc r).take (4 * m)).length = 4 * m := by simp; omega
  have : put (encs rs ++ t) (roomR rs) ((enc r).take (4 * m)) = encs rs ++ ((enc r).take (4 * m) ++ t.drop (4 * m)) := by
    unfold put
    rw [hl, ← encs_len, List.take_left, List.drop_append, List.drop_of_length_le (by omega), show (encs rs).length + 4 * m - (encs rs).length = 4 * m by omega]
    simp
  rw [this]
  exact ⟨_, look_of (rs := rs) (t := (enc r).take (4 * m) ++ t.drop (4 * m)) ⟨rfl, hok, dec_cut hr m hm _ (fun x hx => h255 x (List.mem_of_mem_drop hx))⟩ hg⟩
#print axioms look_add
#print axioms look_cut
end Go.Proofs.Ytgpbmccjcjoijaa
namespace Go.Proofs.Ytgpbmccjcjoijaa
open Go.RowKit

/-- Nothing but these sectors is touched. -/
structure Away (first k : Nat) (a b : List Int) : Prop where
  len : b.length = a.length
  out : ∀ i, i < 1024 * first ∨ 1024 * (first + k) ≤ i → b[i]? = a[i]?
  oct : Oct a → Oct b
theorem Away.refl (first k : Nat) (a : List Int) : Away first k a a := ⟨rfl, fun _ _ => rfl, fun h => h⟩
theorem Away.trans {first k : Nat} {a b c : List Int} (h : Away first k a b) (g : Away first k b c) : Away first k a c := ⟨g.len.trans h.len, fun i hi => (g.out i hi).trans (h.out i hi), fun o => g.oct (h.oct o)⟩
theorem Away.put {first k o : Nat} {a m : List Int} (h1 : 1024 * first ≤ o) (h2 : o + m.length ≤ 1024 * (first + k)) (hl : 1024 * (first + k) ≤ a.length) (hm : Oct m) : Away first k a (put a o m) :=
  ⟨put_len _ _ _ (by omega), fun i hi => by rw [put_at _ _ _ _ (by omega), if_neg (by omega)], fun ho => put_oct ho hm⟩
theorem Away.far {first k : Nat} {a b : List Int} (h : Away first k a b) (f2 k2 : Nat) (hd : f2 + k2 ≤ first ∨ first + k ≤ f2) : part b f2 k2 = part a f2 k2 := by
  apply List.ext_getElem?
  intro i
  rw [part_at, part_at]
  by_cases hi : i < 1024 * k2
  · rw [if_pos hi, if_pos hi, h.out _ (by omega)]
  · rw [if_neg hi, if_neg hi]
theorem oct_ff (n : Nat) : Oct (List.replicate n 255) := fun x hx => by rw [List.eq_of_mem_replicate hx]; decide
/-- The records of groups. -/
def recsOf : List Gp → Nat → List Rec
  | [], _ => []
  | g :: gs, i => if g.stays then ⟨2, (i : Int), g.bs⟩ :: recsOf gs (i + 1) else recsOf gs (i + 1)
theorem recsOf_room : ∀ (gs : List Gp) (i : Nat), roomR (recsOf gs i) = roomG gs
  | [], _ => rfl
  | g :: gs, i => by
    have := recsOf_room gs (i + 1)
    have e : roomG (g :: gs) = gRoom g + roomG gs := by simp [roomG]
    unfold recsOf
    by_cases h : g.stays = true
    · rw [if_pos h, e, ← this]; simp [roomR, gRoom, h]
    · rw [if_neg h, e, ← this]; simp [gRoom, h]
theorem recsOf_ok : ∀ (gs : List Gp) (i : Nat), (∀ g ∈ gs, g.bs.length ≤ 4096 ∧ Oct g.bs) → i + gs.length ≤ 16 → ∀ r ∈ recsOf gs i, r.Ok
  | [], _, _, _, r, hr => by cases hr
  | g :: gs, i, h, hi, r, hr => by
    have hg := h g (by simp)
    have ih := recsOf_ok gs (i + 1) (fun x hx => h x (by simp [hx])) (by simp at hi; omega) r
    unfold recsOf at hr
    split at hr
    · rcases List.mem_cons.1 hr with rfl | hr
      · exact ⟨by show (0 : Int) ≤ 2; decide, by show (2 : Int) < 256; decide, by show (0 : Int) ≤ i; omega, by show (i : Int) < 16; simp at hi; omega, hg.2, hg.1⟩
      · exact ih hr
    · exact ih hr
def dropG (all : List Gp) : List Gp := all.map fun g => if g.stays then g else gp0
theorem stays_eq {g : Gp} (h : g.stays = true) : (⟨true, false, g.bs⟩ : Gp) = g := by
  obtain ⟨t, m, b⟩ := g
  cases t <;> cases m <;> first | rfl | cases h
theorem takes_recsOf : ∀ (gs : List Gp) (i : Nat) (pre : List Gp), pre.length = i → takes (pre ++ List.replicate gs.length gp0) (recsOf gs i) = pre ++ dropG gs
  | [], _, pre, _ => by simp [recsOf, takes, dropG]
  | g :: gs, i, pre, hp => by
    unfold recsOf
    by_cases h : g.stays = true
    · rw [if_pos h]
      have ih := takes_recsOf gs (i + 1) (pre ++ [g]) (by simp [hp])
      have e : take1 (pre ++ List.replicate (g :: gs).length gp0) ⟨2, (i : Int), g.bs⟩ = (pre ++ [g]) ++ List.replicate gs.length gp0 := by
        unfold take1
        rw [if_pos rfl]
        show (pre ++ List.replicate (gs.length + 1) gp0).set (i : Int).toNat _ = _
        rw [Int.toNat_natCast, List.set_append_right _ _ (by omega), hp, Nat.sub_self, List.replicate_succ, List.set_cons_zero, stays_eq h]
        simp
      show takes (take1 _ _) _ = _
      rw [e, ih]
      simp [dropG, h]
    · rw [if_neg h]
      have ih := takes_recsOf gs (i + 1) (pre ++ [gp0]) (by simp [hp])
      have e : pre ++ List.replicate (g :: gs).length gp0 = (pre ++ [gp0]) ++ List.replicate gs.length gp0 := by
        show pre ++ List.replicate (gs.length + 1) gp0 = _
        rw [List.replicate_succ]; simp
      rw [e, ih]
      simp [dropG, h]
/-- A region that is being filled: nothing ahead, records, nothing behind. -/
def Fil (hb : List Int) (rs : List Rec) : Prop := ∃ t, hb = List.replicate 16 255 ++ (encs rs ++ t) ∧ ∀ x ∈ t, x = 255
theorem Fil.add {hb : List Int} {rs : List Rec} (h : Fil hb rs) {r : Rec} (hl : 16 + roomR rs + rm r.bs.length ≤ hb.length) : Fil (put hb (16 + roomR rs) (enc r)) (rs ++ [r]) ∧ ∀ i, i < rm r.bs.length → hb.getD (16 + roomR rs + i) 0 = 255 := by
  obtain ⟨t, rfl, ht⟩ := h
  have hL := enc_len r
  have hE := encs_len rs
  simp only [List.length_append, List.length_replicate] at hl
  constructor
  · refine ⟨t.drop (rm r.bs.length), ?_, fun x hx => ht x (List.mem_of_mem_drop hx)⟩
    have e : List.replicate 16 255 ++ (encs rs ++ t) = (List.replicate 16 255 ++ encs rs) ++ (t.take (rm r.bs.length) ++ t.drop (rm r.bs.length)) := by rw [List.take_append_drop, List.append_assoc]
    rw [e, put_exact _ _ _ _ _ (by rw [List.length_append, List.length_replicate, hE]) (by rw [hL]; simp; omega), encs_app]
    simp [encs]
  · intro i hi
    have e : List.replicate 16 255 ++ (encs rs ++ t) = (List.replicate 16 255 ++ encs rs) ++ t := by simp
    rw [e, List.getD_eq_getElem?_getD, List.getElem?_append_right (by simp [hE]; omega)]
    rw [show 16 + roomR rs + i - (List.replicate 16 (255 : Int) ++ encs rs).length = i by simp [hE]; omega, List.getElem?_eq_getElem (show i < t.length by omega)]
    exact ht _ (List.getElem_mem _)
/-- The first bytes of a region are blank. -/
def Bl (hb : List Int) : Prop := ∀ i, i < 16 → hb.getD i 0 = 255
theorem Fil.bl {hb : List Int} {rs : List Rec} (h : Fil hb rs) : Bl hb := fun i hi => by
  obtain ⟨t, rfl, ht⟩ := h
  rw [List.getD_eq_getElem?_getD, List.getElem?_append_left (by simpa using hi), List.getElem?_eq_getElem (by simpa using hi), List.getElem_replicate]
  rfl
theorem Bl.put {hb m : List Int} {o : Nat} (h : Bl hb) (ho : 16 ≤ o) (hl : o + m.length ≤ hb.length) : Bl (put hb o m) := fun i hi => by rw [put_getD _ _ _ _ hl, if_neg (by omega)]; exact h i hi
theorem Bl.look {hb : List Int} (h : Bl hb) : (look hb).bg = false := by rw [look_none (dec_blank4 (h 2 (by omega)) (h 3 (by omega)))]
/-- Groups' records, one behind the other. -/
theorem fillG_res (n first k : Nat) (hfk : first + k ≤ n) : ∀ (gs : List Gp) (i : Nat) (rs : List Rec) (s : FS), (∀ g ∈ gs, g.bs.length ≤ 4096 ∧ Oct g.bs) → i + gs.length ≤ 16 → s.of = false → s.cs.length = 1024 * n → (16 + roomR rs) % 4 = 0 → 16 + roomR rs + roomG gs ≤ 1024 * k → Fil (part s.cs first k) rs →
    (∃ t, fillG n first k gs i (16 + roomR rs) s = (0, 16 + roomR rs + roomG gs, t) ∧ Fil (part t.cs first k) (rs ++ recsOf gs i) ∧ Away first k s.cs t.cs ∧ t.of = false ∧ t.ar = s.ar) ∨ (∃ e t, fillG n first k gs i (16 + roomR rs) s = (7, e, t) ∧ Bl (part t.cs first k) ∧ Away first k s.cs t.cs ∧ t.of = true ∧ s.ar = true)
  | [], i, rs, s, _, _, ho, _, _, _, hF => .inl ⟨s, by simp [fillG, roomG], by simpa [recsOf] using hF, Away.refl _ _ _, ho, rfl⟩
  | g :: gs, i, rs, s, hg, hi, ho, hn, h4, hl, hF => by
    have e : roomG (g :: gs) = gRoom g + roomG gs := by simp [roomG]
    have hpl := part_len' (cs := s.cs) (first := first) (k := k) (by omega)
    by_cases h : g.stays = true
    · have eg : gRoom g = rm g.bs.length := by simp [gRoom, h]
      have rOk : Rec.Ok ⟨2, (i : Int), g.bs⟩ := ⟨by show (0 : Int) ≤ 2; decide, by show (2 : Int) < 256; decide, by show (0 : Int) ≤ i; omega, by show (i : Int) < 16; simp at hi; omega, (hg g (by simp)).2, (hg g (by simp)).1⟩
      obtain ⟨F1, f255⟩ := hF.add (r := ⟨2, (i : Int), g.bs⟩) (by show 16 + roomR rs + rm g.bs.length ≤ _; omega)
      have hL : (enc ⟨2, (i : Int), g.bs⟩).length = rm g.bs.length := enc_len _
      have r4 := rm_four g.bs.length
      have W := regW_res n first (rm g.bs.length / 4) (enc ⟨2, (i : Int), g.bs⟩) (16 + roomR rs) s (by omega) h4 (enc_oct rOk) ho hn (by omega) (fun q hq => by
        have := f255 q (by rw [hL] at hq; exact hq)
        rw [part_getD (by omega)] at this
        rwa [show 1024 * first + (16 + roomR rs) + q = 1024 * first + (16 + roomR rs + q) by omega])
      rcases W with ⟨t, hw, hc, hof, har⟩ | ⟨t, m, hw, hm, hc, hof, har⟩
      · have ha : addP n first k true (16 + roomR rs) ⟨2, (i : Int), g.bs⟩ s = (0, 16 + roomR rs + rm g.bs.length, t) := addP_ok (by rintro (h | h); cases h; have h : 1024 * k < 16 + roomR rs + rm g.bs.length := h; omega) hw
        have A1 : Away first k s.cs t.cs := by rw [hc]; exact Away.put (by omega) (by omega) (by omega) (enc_oct rOk)
        have eR : roomR (rs ++ [⟨2, (i : Int), g.bs⟩]) = roomR rs + rm g.bs.length := by simp [roomR]
        have P1 : Fil (part t.cs first k) (rs ++ [⟨2, (i : Int), g.bs⟩]) := by rw [hc, part_put (by omega) (by omega)]; exact F1
        have ih := fillG_res n first k hfk gs (i + 1) (rs ++ [⟨2, (i : Int), g.bs⟩]) t (fun x hx => hg x (by simp [hx])) (by simp at hi; omega) hof (by rw [A1.len, hn]) (by rw [eR]; omega) (by rw [eR]; omega) P1
        rw [eR] at ih
        have u : fillG n first k (g :: gs) i (16 + roomR rs) s = fillG n first k gs (i + 1) (16 + roomR rs + rm g.bs.length) t := by rw [fillG, if_pos h, ha, if_pos rfl]
        rw [u, show 16 + roomR rs + rm g.bs.length = 16 + (roomR rs + rm g.bs.length) by omega]
        rcases ih with ⟨t2, e2, F2, A2, o2, a2⟩ | ⟨en, t2, e2, F2, A2, o2, a2⟩
        · refine .inl ⟨t2, by rw [e2, e, eg]; congr 2; omega, ?_, A1.trans A2, o2, a2.trans har⟩
          rw [recsOf, if_pos h]; simpa using F2
        · exact .inr ⟨en, t2, e2, F2, A1.trans A2, o2, har ▸ a2⟩
      · have ha : addP n first k true (16 + roomR rs) ⟨2, (i : Int), g.bs⟩ s = (7, 16 + roomR rs, t) := addP_err (by rintro (h | h); cases h; have h : 1024 * k < 16 + roomR rs + rm g.bs.length := h; omega) hw (by decide)
        have ol : Oct ((enc ⟨2, (i : Int), g.bs⟩).take (4 * m)) := fun x hx => enc_oct rOk x (List.mem_of_mem_take hx)
        have ll : ((enc ⟨2, (i : Int), g.bs⟩).take (4 * m)).length = 4 * m := by simp; omega
        refine .inr ⟨_, t, by rw [fillG, if_pos h, ha, if_neg (by show ¬ (7 : Int) = 0; decide)], ?_, ?_, hof, har⟩
        · rw [hc, part_put (by omega) (by omega)]; exact hF.bl.put (by omega) (by omega)
        · rw [hc]; exact Away.put (by omega) (by omega) (by omega) ol
    · have eg : gRoom g = 0 := by simp [gRoom, h]
      have ih := fillG_res n first k hfk gs (i + 1) rs s (fun x hx => hg x (by simp [hx])) (by simp at hi; omega) ho hn h4 (by omega) hF
      rw [fillG, if_neg h, recsOf, if_neg h, e, eg, Nat.zero_add]
      exact ih
#print axioms fillG_res
#print axioms takes_recsOf
end Go.Proofs.Ytgpbmccjcjoijaa
namespace Go.Proofs.Ytgpbmccjcjoijaa
open Go.RowKit

theorem put_whole (l m : List Int) (h : m.length = l.length) : put l 0 m = m := by unfold put; simp [h]
theorem put_nil (l : List Int) (o : Nat) : put l o [] = l := by unfold put; simp
theorem fillP_res (n first k : Nat) (hfk : first + k ≤ n) (hk : 1 ≤ k) (num : Int) (hnum : 0 ≤ num ∧ num < 256) (all : List Gp) (h16 : all.length = 16) (hg : ∀ g ∈ all, g.bs.length ≤ 4096 ∧ Oct g.bs) (s : FS) (ho : s.of = false) (hn : s.cs.length = 1024 * n) (hl : 16 + roomG all ≤ 1024 * k) :
    (∃ t, fillP n first k num all s = (0, 16 + roomG all, t) ∧ look (part t.cs first k) = ⟨true, num, 16 + roomG all, dropG all⟩ ∧ Away first k s.cs t.cs ∧ t.of = false ∧ t.ar = s.ar) ∨ (∃ e t, fillP n first k num all s = (7, e, t) ∧ (part t.cs first k = part s.cs first k ∨ (look (part t.cs first k)).bg = false) ∧ Away first k s.cs t.cs ∧ t.of = true ∧ s.ar = true) := by
  have hpl := part_len' (cs := s.cs) (first := first) (k := k) (by omega)
  rcases regE_res n first k 0 s ho hn (by omega) with ⟨t, hE, hc, hof, har⟩ | ⟨t, m, hE, hm, hc, hof, har⟩
  · rw [Nat.add_zero, show 1024 * first = 1024 * first + 0 from rfl] at hc
    have A1 : Away first k s.cs t.cs := by rw [hc]; exact Away.put (by omega) (by simp; omega) (by omega) (oct_ff _)
    have P1 : part t.cs first k = List.replicate (1024 * k) 255 := by rw [hc, part_put (by simp) (by omega), put_whole _ _ (by simp [hpl])]
    have F1 : Fil (part t.cs first k) [] := ⟨List.replicate (1024 * k - 16) 255, by rw [P1]; show _ = List.replicate 16 255 ++ List.replicate (1024 * k - 16) 255; rw [List.replicate_append_replicate]; congr 1; omega, fun x hx => List.eq_of_mem_replicate hx⟩
    have G := fillG_res n first k hfk all 0 [] t hg (by omega) hof (by rw [A1.len, hn]) (by decide) (by simpa [roomR] using hl) F1
    rw [show 16 + roomR [] = 16 from rfl] at G
    rcases G with ⟨u, hG, FU, AU, ou, au⟩ | ⟨e, u, hG, FU, AU, ou, au⟩
    · have hpu := part_len' (cs := u.cs) (first := first) (k := k) (by rw [AU.len, A1.len]; omega)
      have rOk : Rec.Ok ⟨1, 0, [num]⟩ := ⟨by show (0 : Int) ≤ 1; decide, by show (1 : Int) < 256; decide, by show (0 : Int) ≤ 0; decide, by show (0 : Int) < 16; decide, fun x hx => by simp at hx; subst hx; exact hnum, by simp⟩
      have hL : (enc ⟨1, 0, [num]⟩).length = 16 := by rw [enc_len]; exact rm_one
      have W := regW_res n first 4 (enc ⟨1, 0, [num]⟩) 0 u (by omega) rfl (enc_oct rOk) ou (by rw [AU.len, A1.len, hn]) (by omega) (fun q hq => by
        have := FU.bl q (by omega)
        rwa [part_getD (by omega)] at this)
      have B0 := FU.bl
      obtain ⟨tl, ht, h255⟩ := FU
      rw [List.nil_append] at ht
      rcases W with ⟨v, hw, cv, ov, av⟩ | ⟨v, m, hw, hm, cv, ov, av⟩
      · refine .inl ⟨v, fillP_w hE hG hw, ?_, ?_, ov, av.trans (au.trans har)⟩
        · rw [cv, part_put (by omega) (by rw [AU.len, A1.len]; omega), ht]
          have : put (List.replicate 16 255 ++ (encs (recsOf all 0) ++ tl)) 0 (enc ⟨1, 0, [num]⟩) = encs (⟨1, 0, [num]⟩ :: recsOf all 0) ++ tl := by
            have := put_exact [] (List.replicate 16 (255 : Int)) (enc ⟨1, 0, [num]⟩) (encs (recsOf all 0) ++ tl) 0 rfl (by rw [hL, List.length_replicate])
            rw [List.nil_append, List.nil_append] at this
            rw [this, encs_cons, List.append_assoc]
          rw [this, look_encs (fun r hr => by rcases List.mem_cons.1 hr with rfl | hr; exact rOk; exact recsOf_ok all 0 hg (by omega) r hr) h255 rfl]
          have e1 : roomR (⟨1, 0, [num]⟩ :: recsOf all 0) = 16 + roomG all := by rw [← recsOf_room all 0]; simp [roomR, rm]
          have e2 : takes all0 (⟨1, 0, [num]⟩ :: recsOf all 0) = dropG all := by
            have := takes_recsOf all 0 [] rfl
            rw [h16] at this
            exact this
          rw [e1, e2]
          rfl
        · exact (A1.trans AU).trans (by rw [cv]; exact Away.put (by omega) (by omega) (by rw [AU.len, A1.len]; omega) (enc_oct rOk))
      · have ll : ((enc ⟨1, 0, [num]⟩).take (4 * m)).length = 4 * m := by simp; omega
        refine .inr ⟨_, v, fillP_w hE hG hw, .inr ?_, ?_, ov, har ▸ au ▸ av⟩
        · rw [cv, part_put (by omega) (by rw [AU.len, A1.len]; omega)]
          have : put (part u.cs first k) 0 ((enc ⟨1, 0, [num]⟩).take (4 * m)) = (enc ⟨1, 0, [num]⟩).take (4 * m) ++ (part u.cs first k).drop (4 * m) := by
            unfold put; rw [ll]; simp
          rw [this, look_none (dec_cut2 rOk m (by rw [← enc_len]; exact hm) _ (fun i hi => by
            have hi : i + 4 * m < rm 1 := hi
            rw [rm_one] at hi
            rw [List.getD_eq_getElem?_getD, List.getElem?_drop, ← List.getD_eq_getElem?_getD]
            exact B0 _ (by omega)))]
        · exact (A1.trans AU).trans (by rw [cv]; exact Away.put (by omega) (by omega) (by rw [AU.len, A1.len]; omega) (fun x hx => enc_oct rOk x (List.mem_of_mem_take hx)))
    · exact .inr ⟨e, u, fillP_g hE hG (by decide), .inr FU.look, A1.trans AU, ou, har ▸ au⟩
  · rw [Nat.add_zero, show 1024 * first = 1024 * first + 0 from rfl] at hc
    refine .inr ⟨0, t, fillP_e hE (by decide), ?_, ?_, hof, har⟩
    · rcases Nat.eq_zero_or_pos m with h0 | hp
      · subst h0; left; rw [hc]; rw [Nat.mul_zero, List.replicate_zero, put_nil]
      · right
        refine Bl.look (fun i hi => ?_)
        rw [hc, part_put (by simp; omega) (by omega), put_getD _ _ _ _ (by simp; omega), if_pos (by simp; omega), List.getD_eq_getElem?_getD, List.getElem?_eq_getElem (by simp; omega), List.getElem_replicate]
        rfl
    · rw [hc]; exact Away.put (by omega) (by simp; omega) (by omega) (oct_ff _)

theorem opn_of {cs : List Int} {first k : Nat} {hi : Bool} (h : newerB (look (part cs (first + k) k)) (look (part cs first k)) = hi) : opn cs first k = ofLK hi (look (part cs (if hi then first + k else first) k)) := by
  unfold opn
  cases hi with
  | true => rw [if_pos h]; rfl
  | false => rw [if_neg (by rw [h]; decide)]; rfl
/-- What an opening would find. -/
structure Inv (cs : List Int) (first k : Nat) (j : JS) : Prop where
  eq : opn cs first k = ⟨j.hi, j.bg, j.num, j.en, dropG j.all, false⟩
theorem Inv.new {cs : List Int} {first k : Nat} {j : JS} (h : Inv cs first k j) : newerB (look (part cs (first + k) k)) (look (part cs first k)) = j.hi := by
  have e := h.eq
  have := opn_of (cs := cs) (first := first) (k := k) rfl
  rw [e] at this
  exact (congrArg JS.hi this).symm
theorem Inv.half {cs : List Int} {first k : Nat} {j : JS} (h : Inv cs first k j) : look (part cs (j.f1 first k) k) = ⟨j.bg, j.num, j.en, dropG j.all⟩ := by
  have e := h.eq
  rw [opn_of h.new] at e
  have e1 : (if j.hi then first + k else first) = j.f1 first k := rfl
  rw [e1] at e
  revert e
  generalize look (part cs (j.f1 first k) k) = l
  obtain ⟨a, b, c, d⟩ := l
  intro e
  simp only [ofLK, JS.mk.injEq] at e
  obtain ⟨-, rfl, rfl, rfl, rfl, -⟩ := e
  rfl
theorem inv_of {cs : List Int} {first k : Nat} {j : JS} (h : newerB (look (part cs (first + k) k)) (look (part cs first k)) = j.hi) (hl : look (part cs (j.f1 first k) k) = ⟨j.bg, j.num, j.en, dropG j.all⟩) : Inv cs first k j := ⟨by
  rw [opn_of h]
  have e1 : (if j.hi then first + k else first) = j.f1 first k := rfl
  rw [e1, hl]; rfl⟩
theorem newerB_same {a b c d : LK} (h1 : a.bg = b.bg) (h2 : a.num = b.num) (h3 : c.bg = d.bg) (h4 : c.num = d.num) : newerB a c = newerB b d := by unfold newerB; rw [h1, h2, h3, h4]
#print axioms fillP_res
#print axioms Inv.half
end Go.Proofs.Ytgpbmccjcjoijaa
namespace Go.Proofs.Ytgpbmccjcjoijaa
open Go.RowKit

theorem Away.wide {f k F K : Nat} {a b : List Int} (h : Away f k a b) (h1 : F ≤ f) (h2 : f + k ≤ F + K) : Away F K a b := ⟨h.len, fun i hi => h.out i (by omega), h.oct⟩
/-- A journal is whole, and so are the groups that are to be kept. -/
structure Keeps (n first k : Nat) (j : JS) (s : FS) (r : Rec) (af : List Gp) : Prop where
  inv : Inv s.cs first k j
  oct : Oct s.cs
  len : s.cs.length = 1024 * n
  fit : first + k + k ≤ n
  k1 : 1 ≤ k
  on : s.of = false
  ok : r.Ok
  a16 : af.length = 16
  grp : ∀ g ∈ af, g.bs.length ≤ 4096 ∧ Oct g.bs
  room : 16 + roomG af ≤ 1024 * k
  take : dropG af = take1 (dropG j.all) r
theorem keepJ_res {n first k : Nat} {j : JS} {s : FS} {r : Rec} {af : List Gp} (h : Keeps n first k j s r af) :
    (∃ j' t, keepJ n first k j r af s = (0, j', t) ∧ Inv t.cs first k j' ∧ j'.all = af ∧ j'.cut = false ∧ Away first (k + k) s.cs t.cs ∧ t.of = false ∧ t.ar = s.ar) ∨
    (∃ t, keepJ n first k j r af s = (7, { j with cut := true }, t) ∧ (opn t.cs first k).all = dropG j.all ∧ Away first (k + k) s.cs t.cs ∧ t.of = true ∧ s.ar = true) := by
  obtain ⟨hI, hO, hn, hfk, hk, ho, hr, h16, hg, hroom, htk⟩ := h
  have hN := hI.new
  have hH := hI.half
  have hf1 : j.f1 first k + k ≤ n ∧ first ≤ j.f1 first k ∧ j.f1 first k + k ≤ first + (k + k) := by unfold JS.f1; split <;> omega
  have hf2 : j.f2 first k + k ≤ n ∧ first ≤ j.f2 first k ∧ j.f2 first k + k ≤ first + (k + k) := by unfold JS.f2; split <;> omega
  have hpl := part_len' (cs := s.cs) (first := j.f1 first k) (k := k) (by omega)
  have h4 : j.en % 4 = 0 := by have := look_four (b := part s.cs (j.f1 first k) k) (by omega); rw [hH] at this; exact this
  by_cases hfull : j.bg = false ∨ 1024 * k < j.en + rm r.bs.length
  · have ha := addP_no (n := n) (first := j.f1 first k) (s := s) hfull
    rcases fillP_res n (j.f2 first k) k hf2.1 hk ((j.num + 1) % 256) (by omega) af h16 hg s ho hn hroom with ⟨t, e, hl, A, ot, at_⟩ | ⟨e2, t, e, hl, A, ot, at_⟩
    · refine .inl ⟨_, t, keepJ_m0 ha (.inl rfl) e, ?_, rfl, rfl, A.wide hf2.2.1 hf2.2.2, ot, at_⟩
      cases hhi : j.hi with
      | true =>
        have e1 : j.f1 first k = first + k := by unfold JS.f1; rw [hhi]; rfl
        have e2 : j.f2 first k = first := by unfold JS.f2; rw [hhi]; rfl
        rw [e2] at hl A
        rw [e1] at hH
        refine inv_of ?_ hl
        rw [hl, A.far (first + k) k (by omega), hH]
        show newerB _ _ = false
        unfold newerB
        simp
        omega
      | false =>
        have e1 : j.f1 first k = first := by unfold JS.f1; rw [hhi]; rfl
        have e2 : j.f2 first k = first + k := by unfold JS.f2; rw [hhi]; rfl
        rw [e2] at hl A
        rw [e1] at hH
        refine inv_of ?_ hl
        rw [hl, A.far first k (by omega), hH]
        show newerB _ _ = true
        unfold newerB
        simp
        omega
    · refine .inr ⟨t, keepJ_m ha (.inl rfl) e (by decide), ?_, A.wide hf2.2.1 hf2.2.2, ot, at_⟩
      cases hhi : j.hi with
      | true =>
        have e1 : j.f1 first k = first + k := by unfold JS.f1; rw [hhi]; rfl
        have e2 : j.f2 first k = first := by unfold JS.f2; rw [hhi]; rfl
        rw [e2] at hl A
        rw [e1] at hH
        rw [hhi] at hN
        have N2 : newerB (look (part t.cs (first + k) k)) (look (part t.cs first k)) = true := by
          rw [A.far (first + k) k (by omega)]
          rcases hl with hl | hl
          · rw [hl]; exact hN
          · unfold newerB at hN ⊢; rw [hl]; simp at hN ⊢; exact hN.1
        rw [opn_of N2, if_pos rfl, A.far (first + k) k (by omega), hH]; rfl
      | false =>
        have e1 : j.f1 first k = first := by unfold JS.f1; rw [hhi]; rfl
        have e2 : j.f2 first k = first + k := by unfold JS.f2; rw [hhi]; rfl
        rw [e2] at hl A
        rw [e1] at hH
        rw [hhi] at hN
        have N2 : newerB (look (part t.cs (first + k) k)) (look (part t.cs first k)) = false := by
          rw [A.far first k (by omega)]
          rcases hl with hl | hl
          · rw [hl]; exact hN
          · unfold newerB; rw [hl]; rfl
        rw [opn_of N2, if_neg (by decide), A.far first k (by omega), hH]; rfl
  · have hbg : j.bg = true := by cases h : j.bg; exact absurd (.inl h) hfull; rfl
    have hen : j.en + rm r.bs.length ≤ 1024 * k := by
      by_cases hh : j.en + rm r.bs.length ≤ 1024 * k
      · exact hh
      · exact absurd (.inr (by omega)) hfull
    have oP := part_oct hO (j.f1 first k) k
    have LA := look_add oP (by rw [hH]; exact hbg) hr (by rw [hH, hpl]; exact hen)
    have LC := look_cut oP (by rw [hH]; exact hbg) hr (by rw [hH, hpl]; exact hen)
    rw [hH] at LA LC
    obtain ⟨LA, f255⟩ := LA
    have f255 : ∀ i, i < rm r.bs.length → (part s.cs (j.f1 first k) k).getD (j.en + i) 0 = 255 := f255
    have LA : look (put (part s.cs (j.f1 first k) k) j.en (enc r)) = ⟨true, j.num, j.en + rm r.bs.length, take1 (dropG j.all) r⟩ := LA
    have LC : ∀ m, 4 * m < rm r.bs.length → ∃ e, look (put (part s.cs (j.f1 first k) k) j.en ((enc r).take (4 * m))) = ⟨true, j.num, e, dropG j.all⟩ := LC
    have hL := enc_len r
    have r4 := rm_four r.bs.length
    -- the two halves behind a change of the one that counts
    have NW : ∀ (b : List Int) (l : LK), part b (j.f1 first k) k = part b (j.f1 first k) k → look (part b (j.f1 first k) k) = l → l.bg = true → l.num = j.num → Away (j.f1 first k) k s.cs b → newerB (look (part b (first + k) k)) (look (part b first k)) = j.hi := fun b l _ hl lb ln A => by
      rw [← hN]
      cases hhi : j.hi with
      | true =>
        have e1 : j.f1 first k = first + k := by unfold JS.f1; rw [hhi]; rfl
        rw [e1] at hl A hH
        rw [A.far first k (by omega)]
        exact newerB_same (by rw [hl, hH, lb]; exact hbg.symm) (by rw [hl, hH, ln]) rfl rfl
      | false =>
        have e1 : j.f1 first k = first := by unfold JS.f1; rw [hhi]; rfl
        rw [e1] at hl A hH
        rw [A.far (first + k) k (by omega)]
        exact newerB_same rfl rfl (by rw [hl, hH, lb]; exact hbg.symm) (by rw [hl, hH, ln])
    rcases regW_res n (j.f1 first k) (rm r.bs.length / 4) (enc r) j.en s (by omega) h4 (enc_oct hr) ho hn (by omega) (fun q hq => by
        have := f255 q (by rw [hL] at hq; exact hq)
        rw [part_getD (by omega)] at this
        rwa [show 1024 * j.f1 first k + j.en + q = 1024 * j.f1 first k + (j.en + q) by omega]) with ⟨t, hw, hc, hof, har⟩ | ⟨t, m, hw, hm, hc, hof, har⟩
    · have A : Away (j.f1 first k) k s.cs t.cs := by rw [hc]; exact Away.put (by omega) (by omega) (by omega) (enc_oct hr)
      have hl : look (part t.cs (j.f1 first k) k) = ⟨true, j.num, j.en + rm r.bs.length, dropG af⟩ := by rw [hc, part_put (by omega) (by omega), LA, htk]
      refine .inl ⟨_, t, keepJ_a0 (addP_ok hfull hw), ?_, rfl, rfl, A.wide hf1.2.1 hf1.2.2, hof, har⟩
      refine inv_of (NW t.cs _ rfl hl rfl rfl A) ?_
      show look (part t.cs (j.f1 first k) k) = ⟨j.bg, j.num, j.en + rm r.bs.length, dropG af⟩
      rw [hl, hbg]
    · have ll : ((enc r).take (4 * m)).length = 4 * m := by simp; omega
      have A : Away (j.f1 first k) k s.cs t.cs := by rw [hc]; exact Away.put (by omega) (by omega) (by omega) (fun x hx => enc_oct hr x (List.mem_of_mem_take hx))
      obtain ⟨e, hl⟩ := LC m (by omega)
      have hl : look (part t.cs (j.f1 first k) k) = ⟨true, j.num, e, dropG j.all⟩ := by rw [hc, part_put (by omega) (by omega), hl]
      refine .inr ⟨t, keepJ_a (addP_err hfull hw (by decide)) (by decide) (by decide), ?_, A.wide hf1.2.1 hf1.2.2, hof, har⟩
      rw [opn_of (NW t.cs _ rfl hl rfl rfl A)]
      have e1 : (if j.hi then first + k else first) = j.f1 first k := rfl
      rw [e1, hl]; rfl
#print axioms keepJ_res
end Go.Proofs.Ytgpbmccjcjoijaa
namespace Go.Proofs.Ytgpbmccjcjoijaa
open Go.RowKit

theorem dropG_store (all : List Gp) (g : Int) (bs : List Int) : dropG (take1 all ⟨2, g, bs⟩) = take1 (dropG all) ⟨2, g, bs⟩ := by
  unfold take1
  rw [if_pos rfl, if_pos rfl]
  unfold dropG
  rw [List.map_set]
  rfl
theorem dropG_mark (all : List Gp) (i : Nat) (g : Gp) : dropG (all.set i { g with marked := true }) = take1 (dropG all) ⟨3, (i : Int), []⟩ := by
  unfold take1
  rw [if_neg (by show ¬ (3 : Int) = 2; decide), if_pos rfl]
  unfold dropG
  rw [List.map_set]
  show _ = (all.map _).set (i : Int).toNat gp0
  rw [Int.toNat_natCast]
  congr 1
  rw [if_neg]
  simp [Gp.stays]
theorem dropG_drop (all : List Gp) : dropG (dropG all) = dropG all := by
  unfold dropG
  rw [List.map_map]
  apply List.map_congr_left
  intro g _
  show (if (if g.stays then g else gp0).stays then (if g.stays then g else gp0) else gp0) = _
  by_cases h : g.stays = true
  · rw [if_pos h, if_pos h]
  · rw [if_neg h]; rfl
theorem dropG_len (all : List Gp) : (dropG all).length = all.length := by simp [dropG]
theorem roomG_drop (all : List Gp) : roomG (dropG all) = roomG all := by
  unfold roomG dropG
  rw [List.map_map]
  congr 1
  apply List.map_congr_left
  intro g _
  show gRoom (if g.stays then g else gp0) = _
  by_cases h : g.stays = true
  · rw [if_pos h]
  · rw [if_neg h]; unfold gRoom; rw [if_neg h]; rfl
theorem roomG_mark (all : List Gp) (i : Nat) (g : Gp) : roomG (all.set i { g with marked := true }) ≤ roomG all := by
  have := roomG_set all i { g with marked := true }
  have e : gRoom { g with marked := true } = 0 := by simp [gRoom, Gp.stays]
  omega
/-- Groups as they may be. -/
structure GOk (all : List Gp) : Prop where
  n16 : all.length = 16
  grp : ∀ g ∈ all, g.bs.length ≤ 4096 ∧ Oct g.bs
theorem GOk.set {all : List Gp} (h : GOk all) (i : Nat) (g : Gp) (hg : g.bs.length ≤ 4096 ∧ Oct g.bs) : GOk (all.set i g) := ⟨by rw [List.length_set]; exact h.n16, fun x hx => by
  rcases List.mem_or_eq_of_mem_set hx with hx | rfl
  · exact h.grp x hx
  · exact hg⟩
theorem IsG.gok {w : World} {S : List Nat} {all : List Gp} {ss : List SL} (h : IsG w S all ss) : GOk all := ⟨h.n1, fun g hg => by
  obtain ⟨i, hi, e⟩ := List.mem_iff_getElem.1 hg
  have hi2 : i < ss.length := by rw [h.n2, ← h.n1]; exact hi
  obtain ⟨r, l, _⟩ := h.row i g _ (by rw [List.getElem?_eq_getElem hi, e]) (List.getElem?_eq_getElem hi2)
  exact ⟨l, r.oct⟩⟩
/-- A journal that is open: what an opening would find is it. -/
structure Open (n first k : Nat) (j : JS) (s : FS) : Prop where
  inv : Inv s.cs first k j
  oct : Oct s.cs
  len : s.cs.length = 1024 * n
  fit : first + k + k ≤ n
  k1 : 1 ≤ k
  grp : GOk j.all
theorem Open.ok {n first k : Nat} {j : JS} {s : FS} (h : Open n first k j s) : j.Ok k := by
  have hH := h.inv.half
  have hf1 : j.f1 first k + k ≤ n := by have := h.fit; unfold JS.f1; split <;> omega
  have hl := h.len
  have hpl := part_len' (cs := s.cs) (first := j.f1 first k) (k := k) (by omega)
  have hO := part_oct h.oct (j.f1 first k) k
  have e1 := look_en hO
  have e2 := look_four (b := part s.cs (j.f1 first k) k) (by omega)
  have e3 : 0 ≤ (look (part s.cs (j.f1 first k) k)).num ∧ (look (part s.cs (j.f1 first k) k)).num < 256 := by
    have hp := Parts.of hO
    unfold look
    split
    · show 0 ≤ numR _ ∧ numR _ < 256
      have ok := hp.ok
      revert ok
      cases recs (part s.cs (j.f1 first k) k) with
      | nil => intro _; exact ⟨by decide, by decide⟩
      | cons r rs => intro ok; exact (ok r (by simp)).oct.getD 0
    · exact ⟨by show (0 : Int) ≤ 0; decide, by show (0 : Int) < 256; decide⟩
  rw [hH] at e1 e2 e3
  exact ⟨by rw [hpl] at e1; exact e1, e2, e3⟩
theorem Open.room {n first k : Nat} {j : JS} {s : FS} (h : Open n first k j s) : 16 + roomG j.all ≤ 1024 * k := by
  have hH := h.inv.half
  have hf1 : j.f1 first k + k ≤ n := by have := h.fit; unfold JS.f1; split <;> omega
  have hl := h.len
  have hk := h.k1
  have hpl := part_len' (cs := s.cs) (first := j.f1 first k) (k := k) (by omega)
  have e := look_room (part_oct h.oct (j.f1 first k) k) (by omega)
  rw [hH, hpl] at e
  have e : roomG (dropG j.all) + 16 ≤ 1024 * k := e
  rw [roomG_drop] at e
  omega
/-- An opening finds a journal that is open. -/
theorem opn_open {n first k : Nat} {s : FS} (ho : Oct s.cs) (hn : s.cs.length = 1024 * n) (hf : first + k + k ≤ n) (hk : 1 ≤ k) (hg : GOk (opn s.cs first k).all) (hd : dropG (opn s.cs first k).all = (opn s.cs first k).all) : Open n first k (opn s.cs first k) s ∧ (opn s.cs first k).cut = false := by
  have hc : (opn s.cs first k).cut = false := by unfold opn; split <;> rfl
  refine ⟨⟨⟨?_⟩, ho, hn, hf, hk, hg⟩, hc⟩
  rw [hd]
  revert hc
  generalize opn s.cs first k = j
  intro hc
  obtain ⟨a, b, c, d, e, f⟩ := j
  cases hc
  rfl
theorem takes_drop : ∀ (rs : List Rec) (all : List Gp), (∀ r ∈ rs, r.Ok) → dropG all = all → GOk all → dropG (takes all rs) = takes all rs ∧ GOk (takes all rs)
  | [], _, _, h, g => ⟨h, g⟩
  | r :: rs, all, ho, h, g => by
    have hr := ho r (by simp)
    refine takes_drop rs (take1 all r) (fun x hx => ho x (by simp [hx])) ?_ ?_
    · unfold take1
      split
      · unfold dropG at h ⊢; rw [List.map_set, h]; rfl
      · split
        · unfold dropG at h ⊢; rw [List.map_set, h]; rfl
        · exact h
    · unfold take1
      split
      · exact g.set _ _ ⟨hr.len, hr.oct⟩
      · split
        · exact g.set _ _ ⟨by simp [gp0], fun x hx => by simp [gp0] at hx⟩
        · exact g
theorem all0_ok : dropG all0 = all0 ∧ GOk all0 := ⟨rfl, rfl, fun g hg => by rw [List.eq_of_mem_replicate hg]; exact ⟨by simp [gp0], fun x hx => by simp [gp0] at hx⟩⟩
theorem look_drop {b : List Int} (ho : Oct b) : dropG (look b).gs = (look b).gs ∧ GOk (look b).gs := by
  unfold look
  split
  · exact takes_drop _ _ (Parts.of ho).ok all0_ok.1 all0_ok.2
  · exact all0_ok
theorem opn_drop {cs : List Int} (ho : Oct cs) (first k : Nat) : dropG (opn cs first k).all = (opn cs first k).all ∧ GOk (opn cs first k).all := by
  unfold opn
  split
  · exact look_drop (part_oct ho _ _)
  · exact look_drop (part_oct ho _ _)
#print axioms Open.ok
#print axioms Open.room
#print axioms opn_drop
end Go.Proofs.Ytgpbmccjcjoijaa
namespace Go.Proofs.Ytgpbmccjcjoijaa
open Go.RowKit

/-- The document's Store and Restore. -/
def mStore (k : Nat) (all : List Gp) (g : Int) (bs : List Int) : Int × List Gp :=
  if 16 ≤ g then (62, all) else if 4096 < bs.length then (3, all) else if 1024 * k < roomG (take1 all ⟨2, g, bs⟩) + 16 then (60, all) else (0, take1 all ⟨2, g, bs⟩)
def mRestore (all : List Gp) (i : Nat) (g : Gp) : Int × List Gp := if g.there then (0, all.set i { g with marked := true }) else (5, all)
/-- The room that groups take but for one of them. -/
def roomX : List Gp → Nat → Nat
  | [], _ => 0
  | _ :: gs, 0 => roomG gs
  | g :: gs, i + 1 => gRoom g + roomX gs i
theorem roomG_cons (g : Gp) (gs : List Gp) : roomG (g :: gs) = gRoom g + roomG gs := by simp [roomG]
theorem roomX_set : ∀ (all : List Gp) (i : Nat) (g : Gp), i < all.length → roomG (all.set i g) = gRoom g + roomX all i
  | [], _, _, h => by simp at h
  | a :: gs, 0, g, _ => by rw [List.set_cons_zero, roomG_cons]; rfl
  | a :: gs, i + 1, g, h => by
    rw [List.set_cons_succ, roomG_cons, roomX_set gs i g (by simpa using h)]
    show _ = gRoom g + (gRoom a + roomX gs i)
    omega
/-- What a call leaves: it was answered, or the power went and an opening finds what was there. -/
def Done (n first k : Nat) (j : JS) (s : FS) (M : Int × List Gp) (R : Int × JS × FS) : Prop :=
  (R.1 = M.1 ∧ R.2.1.all = M.2 ∧ R.2.1.cut = false ∧ Open n first k R.2.1 R.2.2 ∧ Away first (k + k) s.cs R.2.2.cs ∧ R.2.2.of = false ∧ R.2.2.ar = s.ar) ∨
  (M.1 = 0 ∧ R.1 = 7 ∧ R.2.1 = { j with cut := true } ∧ (opn R.2.2.cs first k).all = dropG j.all ∧ Away first (k + k) s.cs R.2.2.cs ∧ R.2.2.of = true ∧ s.ar = true)
theorem Done.same {n first k : Nat} {j : JS} {s : FS} (h : Open n first k j s) (hc : j.cut = false) (ho : s.of = false) (E : Int) : Done n first k j s (E, j.all) (E, j, s) := .inl ⟨rfl, rfl, hc, h, Away.refl _ _ _, ho, rfl⟩
theorem Done.keep {n first k : Nat} {j : JS} {s : FS} (h : Open n first k j s) (ho : s.of = false) {r : Rec} (hr : r.Ok) {af : List Gp} (hg : GOk af) (hroom : 16 + roomG af ≤ 1024 * k) (ht : dropG af = take1 (dropG j.all) r) : Done n first k j s (0, af) (keepJ n first k j r af s) := by
  rcases keepJ_res (n := n) ⟨h.inv, h.oct, h.len, h.fit, h.k1, ho, hr, hg.n16, hg.grp, hroom, ht⟩ with ⟨j', t, e, hI, ha, hc, A, hof, har⟩ | ⟨t, e, ha, A, hof, har⟩
  · rw [e]
    exact .inl ⟨rfl, ha, hc, ⟨hI, A.oct h.oct, A.len.trans h.len, h.fit, h.k1, by show GOk j'.all; rw [ha]; exact hg⟩, A, hof, har⟩
  · rw [e]
    exact .inr ⟨rfl, rfl, rfl, ha, A, hof, har⟩
theorem storeJ_res {n first k : Nat} {j : JS} {s : FS} (h : Open n first k j s) (hc : j.cut = false) (ho : s.of = false) (g : Int) (hg0 : 0 ≤ g) (bs : List Int) (hb : Oct bs) : Done n first k j s (mStore k j.all g bs) (storeJ n first k j g bs s) := by
  have hco : (j.cut || s.of) = false := by rw [hc, ho]; rfl
  unfold mStore
  by_cases h1 : 16 ≤ g
  · rw [if_pos h1, storeJ_g h1]; exact Done.same h hc ho _
  rw [if_neg h1]
  by_cases h2 : 4096 < bs.length
  · rw [if_pos h2, storeJ_l h1 h2]; exact Done.same h hc ho _
  rw [if_neg h2]
  by_cases h3 : 1024 * k < roomG (take1 j.all ⟨2, g, bs⟩) + 16
  · rw [if_pos h3, storeJ_f h1 h2 hco h3]; exact Done.same h hc ho _
  rw [if_neg h3, storeJ_k h1 h2 hco h3]
  refine Done.keep h ho ⟨by show (0 : Int) ≤ 2; decide, by show (2 : Int) < 256; decide, hg0, by show g < 16; omega, hb, by show bs.length ≤ 4096; omega⟩ ?_ (by omega) (dropG_store _ _ _)
  unfold take1
  rw [if_pos rfl]
  exact h.grp.set _ _ ⟨by show bs.length ≤ 4096; omega, hb⟩
theorem restoreJ_res {n first k : Nat} {j : JS} {s : FS} (h : Open n first k j s) (hc : j.cut = false) (ho : s.of = false) (i : Nat) (g : Gp) (hg : j.all[i]? = some g) : Done n first k j s (mRestore j.all i g) (restoreJ n first k j i g s) := by
  have hco : (j.cut || s.of) = false := by rw [hc, ho]; rfl
  have hi : i < j.all.length := by
    by_cases hh : i < j.all.length
    · exact hh
    · simp [hh] at hg
  have hgm : g ∈ j.all := List.mem_of_getElem? hg
  have h16 := h.grp.n16
  unfold mRestore
  by_cases h1 : g.there = true
  · rw [if_pos h1]
    by_cases h2 : g.marked = true
    · rw [restoreJ_m hco h1 h2]
      have : j.all.set i { g with marked := true } = j.all := by
        have e : ({ g with marked := true } : Gp) = g := by obtain ⟨a, b, c⟩ := g; cases h2; rfl
        rw [e]
        apply List.ext_getElem?
        intro q
        by_cases hq : i = q
        · subst hq; rw [List.getElem?_set_self hi, hg]
        · rw [List.getElem?_set_ne hq]
      rw [this]
      exact Done.same h hc ho _
    · rw [restoreJ_k hco h1 (by simpa using h2)]
      have hr := roomG_mark j.all i g
      have hR := h.room
      exact Done.keep h ho ⟨by show (0 : Int) ≤ 3; decide, by show (3 : Int) < 256; decide, by show (0 : Int) ≤ i; omega, by show (i : Int) < 16; omega, oct_nil, by simp⟩ (h.grp.set _ _ (h.grp.grp g hgm)) (by omega) (dropG_mark _ _ _)
  · rw [if_neg h1, restoreJ_n hco (by simpa using h1)]
    exact Done.same h hc ho _
#print axioms storeJ_res
#print axioms restoreJ_res
end Go.Proofs.Ytgpbmccjcjoijaa
