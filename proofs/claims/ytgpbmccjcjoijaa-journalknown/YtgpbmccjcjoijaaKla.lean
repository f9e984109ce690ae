/-
  Plainly: how many steps a call takes; what an opening of erased sectors finds; the sectors ahead and behind.
-/
import Derived.Test.YtgpbmccjcjoijaaKl
namespace Go.Proofs.Ytgpbmccjcjoijaa
open Go.RowKit

theorem addP_leB {n first k en : Nat} {bg : Bool} {r : Rec} {s : FS} {m : Nat} (h : s.Le m) (hl : r.bs.length ≤ 4096) : (addP n first k bg en r s).2.2.Le (m + 4112) := by
  have hw := regW_le n first _ (enc r) en s m (Nat.le_refl _) h
  have h2 := rm_lt r.bs.length
  have h3 := enc_len r
  unfold addP
  split
  · exact h.more (by omega)
  · split <;> exact hw.more (by omega)
theorem fillG_le {n first k : Nat} : ∀ (gs : List Gp) (i en : Nat) (s : FS) (m : Nat), s.Le m → (∀ g ∈ gs, g.bs.length ≤ 4096) → (fillG n first k gs i en s).2.2.Le (m + 4112 * gs.length)
  | [], i, en, s, m, h, _ => h.more (by omega)
  | g :: gs, i, en, s, m, h, hg => by
    have hg' : ∀ x ∈ gs, x.bs.length ≤ 4096 := fun x hx => hg x (by simp [hx])
    have ha := addP_leB (n := n) (first := first) (k := k) (en := en) (bg := true) (r := ⟨2, (i : Int), g.bs⟩) h (hg g (by simp))
    have hl : (g :: gs).length = gs.length + 1 := rfl
    rw [fillG]
    split
    · split
      · exact (fillG_le gs (i + 1) _ _ (m + 4112) ha hg').more (by omega)
      · exact ha.more (by omega)
    · exact (fillG_le gs (i + 1) _ _ m h hg').more (by omega)
theorem fillP_le {n first k : Nat} {num : Int} {all : List Gp} {s : FS} {m : Nat} (h : s.Le m) (hg : ∀ g ∈ all, g.bs.length ≤ 4096) : (fillP n first k num all s).2.2.Le (m + k + 4112 * all.length + 16) := by
  have h1 := regE_le n first k 0 s m h
  have h2 := fillG_le (n := n) (first := first) (k := k) all 0 16 _ (m + k) h1 hg
  have h3 := regW_le n first _ (enc ⟨1, 0, [num]⟩) 0 _ _ (Nat.le_refl _) h2
  have e : (enc ⟨1, 0, [num]⟩).length = 16 := by rw [enc_len]; show rm [num].length = 16; simp [rm]
  rw [e] at h3
  unfold fillP
  split
  · exact h1.more (by omega)
  · split
    · exact h2.more (by omega)
    · exact h3.more (by omega)
theorem keepJ_le {n first k : Nat} {j : JS} {r : Rec} {af : List Gp} {s : FS} {m : Nat} (h : s.Le m) (hr : r.bs.length ≤ 4096) (hg : ∀ g ∈ af, g.bs.length ≤ 4096) (h16 : af.length = 16) (hk : k ≤ 64) : (keepJ n first k j r af s).2.2.Le (m + 70000) := by
  have h1 := addP_leB (n := n) (first := j.f1 first k) (k := k) (en := j.en) (bg := j.bg) (r := r) h hr
  have h2 := fillP_le (n := n) (first := j.f2 first k) (k := k) (num := (j.num + 1) % 256) (all := af) h1 hg
  rw [h16] at h2
  unfold keepJ
  split
  · split
    · exact h2.more (by omega)
    · exact h2.more (by omega)
  · split
    · exact h1.more (by omega)
    · exact h1.more (by omega)
theorem storeJ_le {n first k : Nat} {j : JS} {g : Int} {bs : List Int} {s : FS} {m : Nat} (h : s.Le m) (hG : GOk j.all) (hk : k ≤ 64) : (storeJ n first k j g bs s).2.2.Le (m + 70000) := by
  unfold storeJ
  split
  · exact h.more (by omega)
  · split
    · exact h.more (by omega)
    · split
      · exact h.more (by omega)
      · split
        · exact h.more (by omega)
        · rename_i h2 _ _
          have hb : bs.length ≤ 4096 := by omega
          refine keepJ_le h hb (fun x hx => ?_) (by rw [take1_len]; exact hG.n16) hk
          unfold take1 at hx
          rw [if_pos rfl] at hx
          rcases List.mem_or_eq_of_mem_set hx with hx | rfl
          · exact (hG.grp x hx).1
          · exact hb
theorem restoreJ_le {n first k : Nat} {j : JS} {i : Nat} {g : Gp} {s : FS} {m : Nat} (h : s.Le m) (hG : GOk j.all) (hg : j.all[i]? = some g) (hk : k ≤ 64) : (restoreJ n first k j i g s).2.2.Le (m + 70000) := by
  unfold restoreJ
  split
  · exact h.more (by omega)
  · split
    · split
      · exact h.more (by omega)
      · refine keepJ_le h (by simp) (fun x hx => ?_) (by rw [List.length_set]; exact hG.n16) hk
        rcases List.mem_or_eq_of_mem_set hx with hx | rfl
        · exact (hG.grp x hx).1
        · exact (hG.grp g (List.mem_of_getElem? hg)).1
    · exact h.more (by omega)
theorem GOk.at {all : List Gp} (h : GOk all) {i : Nat} (hi : i < 16) : all[i]? = some (all.getD i gp0) := by
  have := h.n16
  rw [List.getD_eq_getElem?_getD, List.getElem?_eq_getElem (show i < all.length by omega)]; rfl
theorem doesJ_le {n first k : Nat} {j : JS} {x : Opx} {s : FS} {m : Nat} (h : s.Le m) (hG : GOk j.all) (hx : x.Ok) (hk : k ≤ 64) : (doesJ n first k j x s).2.2.Le (m + 70000) := by
  have g0 := hx.g0
  unfold doesJ
  split
  · split
    · exact h.more (by omega)
    · exact restoreJ_le h hG (hG.at (by omega)) hk
  · exact storeJ_le h hG hk
/-- A call that is made of a journal that is open. -/
theorem doesJ_res {n first k count : Nat} (hk : count / 2 = k) {j : JS} {s : FS} (h : Open n first k j s) (hc : j.cut = false) (ho : s.of = false) (x : Opx) (hx : x.Ok) : Done n first k j s (doesM count j.all x) (doesJ n first k j x s) := by
  have g0 := hx.g0
  unfold doesM doesJ
  rw [hk]
  split
  · split
    · exact Done.same h hc ho _
    · exact restoreJ_res h hc ho _ _ (h.grp.at (by omega))
  · refine storeJ_res h hc ho _ hx.g0.1 _ ?_
    unfold Opx.all
    exact hx.oct.app (fun n hn => by rw [List.eq_of_mem_replicate hn]; decide)
/-- An opening of sectors that are erased. -/
theorem opn_blank {cs : List Int} {first k : Nat} (h1 : ∀ x ∈ part cs first k, x = 255) (h2 : ∀ x ∈ part cs (first + k) k, x = 255) : (opn cs first k).all = all0 := by
  unfold opn
  rw [look_none (dec_blank h1), look_none (dec_blank h2)]
  rw [if_neg (by simp [newerB])]
  rfl
theorem part_blank {cs : List Int} {n first k : Nat} (hl : cs.length = 1024 * n) (hf : first + k ≤ n) (h : ∀ i, 1024 * first ≤ i → i < 1024 * (first + k) → cs.getD i 0 = 255) : ∀ x ∈ part cs first k, x = 255 := by
  intro x hx
  obtain ⟨i, hi, e⟩ := List.mem_iff_getElem.1 hx
  have hi2 : i < 1024 * k := by unfold part at hi; rw [List.length_take] at hi; omega
  have := h (1024 * first + i) (by omega) (by omega)
  rw [List.getD_eq_getElem?_getD, List.getElem?_eq_getElem (by omega)] at this
  have e2 : (part cs first k)[i]? = some x := by rw [List.getElem?_eq_getElem hi, e]
  unfold part at e2
  rw [List.getElem?_take_of_lt hi2, List.getElem?_drop, List.getElem?_eq_getElem (by omega)] at e2
  have e3 := Option.some.inj e2
  rw [← e3]
  exact this
theorem new_blank (n first k : Nat) : (opn (List.replicate (1024 * n) 255) first k).all = all0 := by
  refine opn_blank (fun x hx => ?_) (fun x hx => ?_)
  · exact List.eq_of_mem_replicate (List.mem_of_mem_drop (List.mem_of_mem_take hx))
  · exact List.eq_of_mem_replicate (List.mem_of_mem_drop (List.mem_of_mem_take hx))
theorem begC_len (count : Nat) : (begC count).length = 1024 * (count + 2) := by
  unfold begC
  rw [put_len _ _ _ (by rw [put_len _ _ _ (by simp; omega)]; simp; omega), put_len _ _ _ (by simp; omega)]
  simp
theorem begC_at (count i : Nat) (hi : i < 1024 * (count + 2)) : (begC count).getD i 0 = if (count + 1) * 1024 ≤ i ∧ i < (count + 1) * 1024 + 4 then [5, 6, 7, 8].getD (i - (count + 1) * 1024) 0 else if 36 ≤ i ∧ i < 40 then [1, 2, 3, 4].getD (i - 36) 0 else (255 : Int) := by
  unfold begC
  rw [put_getD _ _ _ _ (by rw [put_len _ _ _ (by simp; omega)]; simp; omega)]
  simp only [List.length_cons, List.length_nil]
  split
  · rfl
  · rw [put_getD _ _ _ _ (by simp; omega)]
    simp only [List.length_cons, List.length_nil]
    split
    · rfl
    · exact ff_getD _ _ hi
theorem begC_oct (count : Nat) : Oct (begC count) := by
  unfold begC
  refine put_oct (put_oct (fun x hx => by rw [List.eq_of_mem_replicate hx]; decide) ?_) ?_
  · intro x hx; simp at hx; rcases hx with rfl | rfl | rfl | rfl <;> decide
  · intro x hx; simp at hx; rcases hx with rfl | rfl | rfl | rfl <;> decide
theorem beg_blank (count k : Nat) (hk : k + k ≤ count) : (opn (begC count) 1 k).all = all0 := by
  refine opn_blank (part_blank (begC_len count) (by omega) fun i h1 h2 => ?_) (part_blank (begC_len count) (by omega) fun i h1 h2 => ?_)
  · rw [begC_at _ _ (by omega), if_neg (by omega), if_neg (by omega)]
  · rw [begC_at _ _ (by omega), if_neg (by omega), if_neg (by omega)]
theorem four_at {α : Type} (a b c d z : α) (i : Nat) (hi : i < 4) : [a, b, c, d].getD i z = if i = 0 then a else if i = 1 then b else if i = 2 then c else d := by
  match i, hi with
  | 0, _ => rfl
  | 1, _ => rfl
  | 2, _ => rfl
  | 3, _ => rfl
theorem Away.getD {first k : Nat} {a b : List Int} (h : Away first k a b) (i : Nat) (hi : i < 1024 * first ∨ 1024 * (first + k) ≤ i) : b.getD i 0 = a.getD i 0 := by rw [List.getD_eq_getElem?_getD, h.out i hi, ← List.getD_eq_getElem?_getD]
/-- The sectors ahead and behind are as they were at first. -/
theorem away_ab {count kk : Nat} (hc : kk ≤ count) {cs : List Int} (h : Away 1 kk (begC count) cs) : (∀ i, i < 1024 → (sec cs 0).getD i 0 = aV i) ∧ ∀ i, i < 1024 → (sec cs (count + 1)).getD i 0 = bV i := by
  refine ⟨fun i hi => ?_, fun i hi => ?_⟩
  · rw [sec_at _ _ _ hi, h.getD _ (by omega), begC_at _ _ (by omega), if_neg (by omega)]
    unfold aV
    by_cases hh : 36 ≤ i ∧ i < 40
    · rw [if_pos (by omega), if_pos hh, four_at _ _ _ _ _ _ (by omega)]
      split
      · omega
      · split
        · omega
        · split <;> omega
    · rw [if_neg (by omega), if_neg hh]
  · rw [sec_at _ _ _ hi, h.getD _ (by omega), begC_at _ _ (by omega)]
    unfold bV
    by_cases hh : i < 4
    · rw [if_pos (by omega), if_pos hh, four_at _ _ _ _ _ _ (by omega)]
      split
      · omega
      · split
        · omega
        · split <;> omega
    · rw [if_neg (by omega), if_neg (by omega), if_neg hh]
/-- A journal that was just opened. -/
theorem opened {n first count : Nat} {s : FS} (ho : Oct s.cs) (hl : s.cs.length = 1024 * n) (hf : first + count ≤ n) (hc : 2 ≤ count) : Open n first (count / 2) (opn s.cs first (count / 2)) s ∧ (opn s.cs first (count / 2)).cut = false := opn_open ho hl (by omega) (by omega) (opn_drop ho _ _).2 (opn_drop ho _ _).1
/-- What an opening finds of a journal that is open. -/
theorem Open.again {n first k : Nat} {j : JS} {s : FS} (h : Open n first k j s) : (opn s.cs first k).all = dropG j.all := by rw [h.inv.eq]
#print axioms doesJ_le
#print axioms doesJ_res
#print axioms away_ab
#print axioms beg_blank
#print axioms Open.again
end Go.Proofs.Ytgpbmccjcjoijaa
