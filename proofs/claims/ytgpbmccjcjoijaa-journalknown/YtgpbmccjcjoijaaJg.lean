/-
  Groups in memory; the walk of take.
-/
import Derived.Test.YtgpbmccjcjoijaaJ9
namespace Go.Proofs.Ytgpbmccjcjoijaa
open Go.RowKit

/-- Where a group's bytes lie, and what room is there. -/
abbrev SL := Option Addr × Nat
abbrev gcell (g : Gp) (s : SL) : List Value := [.bool g.there, .bool g.marked, .slice s.1 g.bs.length s.2]
/-- The cells of groups. -/
def gflat : List Gp → List SL → List Value
  | g :: gs, s :: ss => gcell g s ++ gflat gs ss
  | _, _ => []
theorem gflat_len : ∀ (all : List Gp) (ss : List SL), all.length = ss.length → (gflat all ss).length = 3 * all.length
  | [], [], _ => rfl
  | g :: gs, s :: ss, h => by
    have := gflat_len gs ss (by simpa using h)
    show (gcell g s ++ gflat gs ss).length = _
    rw [List.length_append, this]; simp; omega
theorem gflat_set : ∀ (all : List Gp) (ss : List SL) (i : Nat) (g : Gp) (s : SL), all.length = ss.length → i < all.length → gflat (all.set i g) (ss.set i s) = put (gflat all ss) (i * 3) (gcell g s)
  | g0 :: gs, s0 :: ss, 0, g, s, _, _ => by
    show gcell g s ++ gflat gs ss = put (gcell g0 s0 ++ gflat gs ss) (0 * 3) (gcell g s)
    simp [put]
  | g0 :: gs, s0 :: ss, i + 1, g, s, h, hi => by
    have := gflat_set gs ss i g s (by simpa using h) (by simpa using hi)
    show gcell g0 s0 ++ gflat (gs.set i g) (ss.set i s) = put (gcell g0 s0 ++ gflat gs ss) ((i + 1) * 3) (gcell g s)
    rw [this]
    unfold put
    have e : (i + 1) * 3 = i * 3 + 3 := by omega
    rw [e]
    simp [gcell, Nat.add_assoc]
theorem gflat_part : ∀ (all : List Gp) (ss : List SL) (i : Nat) (g : Gp) (s : SL), all[i]? = some g → ss[i]? = some s → ((gflat all ss).drop (i * 3)).take 3 = gcell g s
  | g0 :: gs, s0 :: ss, 0, g, s, h, h' => by
    obtain rfl : g0 = g := by simpa using h
    obtain rfl : s0 = s := by simpa using h'
    show ((gcell g0 s0 ++ gflat gs ss).drop (0 * 3)).take 3 = _
    simp
  | g0 :: gs, s0 :: ss, i + 1, g, s, h, h' => by
    have := gflat_part gs ss i g s (by simpa using h) (by simpa using h')
    show ((gcell g0 s0 ++ gflat gs ss).drop ((i + 1) * 3)).take 3 = _
    have e : (i + 1) * 3 = 3 + i * 3 := by omega
    rw [e, ← List.drop_drop]
    simpa [gcell] using this
theorem gflat_at (all : List Gp) (ss : List SL) (i : Nat) (g : Gp) (s : SL) (h : all[i]? = some g) (h' : ss[i]? = some s) : (gflat all ss)[i * 3]? = some (.bool g.there) ∧ (gflat all ss)[i * 3 + 1]? = some (.bool g.marked) ∧ (gflat all ss)[i * 3 + 2]? = some (.slice s.1 g.bs.length s.2) := by
  have e := gflat_part all ss i g s h h'
  have e0 := congrArg (fun l => l[0]?) e
  have e1 := congrArg (fun l => l[1]?) e
  have e2 := congrArg (fun l => l[2]?) e
  simp only [List.getElem?_take, List.getElem?_drop] at e0 e1 e2
  exact ⟨by simpa using e0, by simpa using e1, by simpa using e2⟩
theorem gcell_one (g : Gp) (s : SL) : ∀ v ∈ gcell g s, v.oneCell' = true := fun v hv => by
  simp only [gcell, List.mem_cons, List.not_mem_nil, or_false] at hv
  rcases hv with rfl | rfl | rfl <;> rfl
theorem gflat_one : ∀ (all : List Gp) (ss : List SL), ∀ v ∈ gflat all ss, v.oneCell' = true
  | [], _, v, hv => by simp [gflat] at hv
  | _ :: _, [], v, hv => by simp [gflat] at hv
  | g :: gs, s :: ss, v, hv => by
    rcases List.mem_append.1 (show v ∈ gcell g s ++ gflat gs ss from hv) with h | h
    · exact gcell_one g s v h
    · exact gflat_one gs ss v h
/-- Groups whose bytes lie in memory, apart from some blocks. -/
structure IsG (w : World) (S : List Nat) (all : List Gp) (ss : List SL) : Prop where
  n1 : all.length = 16
  n2 : ss.length = 16
  row : ∀ (i : Nat) (g : Gp) (s : SL), all[i]? = some g → ss[i]? = some s → Row w s.1 g.bs.length g.bs ∧ g.bs.length ≤ 4096 ∧ (0 < g.bs.length → ∀ b off, s.1 = some ⟨b, off, none⟩ → b ∉ S)
theorem Row.kp' {w w' : World} {a : Option Addr} {n : Nat} {zs : List Int} {S : List Nat} (h : Row w a n zs) (k : Kp S w w') (hn : 0 < n → ∀ b off, a = some ⟨b, off, none⟩ → b ∉ S) : Row w' a n zs where
  size := h.size
  oct := h.oct
  at_ := fun hp => by
    obtain ⟨b, off, e, hc⟩ := h.at_ hp
    exact ⟨b, off, e, fun i hi => k.cell (hc i hi) (hn hp b off e)⟩
theorem IsG.kp {w w' : World} {S S' : List Nat} {all : List Gp} {ss : List SL} (h : IsG w S all ss) (k : Kp S' w w') (hs : ∀ x ∈ S', x ∈ S) : IsG w' S all ss where
  n1 := h.n1
  n2 := h.n2
  row := fun i g s h1 h2 => by
    obtain ⟨r, l, b⟩ := h.row i g s h1 h2
    exact ⟨r.kp' k (fun hp bl off e hm => b hp bl off e (hs _ hm)), l, b⟩
theorem IsG.next {w w' : World} {S : List Nat} {all : List Gp} {ss : List SL} (h : IsG w S all ss) (k : Below w.heap.size w w') : IsG w' S all ss := h.kp (S' := []) (Kp.of k) (by simp)
theorem IsG.set {w : World} {S : List Nat} {all : List Gp} {ss : List SL} (h : IsG w S all ss) (i : Nat) (g : Gp) (s : SL) (hr : Row w s.1 g.bs.length g.bs) (hl : g.bs.length ≤ 4096) (hb : 0 < g.bs.length → ∀ b off, s.1 = some ⟨b, off, none⟩ → b ∉ S) : IsG w S (all.set i g) (ss.set i s) where
  n1 := by simp [h.n1]
  n2 := by simp [h.n2]
  row := fun j g' s' h1 h2 => by
    by_cases e : i = j
    · subst e
      have hi : i < all.length := by
        by_cases hh : i < all.length
        · exact hh
        · simp [hh] at h1
      have hi2 : i < ss.length := by have := h.n1; have := h.n2; omega
      simp [hi] at h1
      simp [hi2] at h2
      subst h1; subst h2
      exact ⟨hr, hl, hb⟩
    · rw [List.getElem?_set_ne e] at h1 h2
      exact h.row j g' s' h1 h2
/-- No group at all. -/
def ss0 : List SL := List.replicate 16 (none, 0)
theorem isG0 (w : World) (S : List Nat) : IsG w S all0 ss0 where
  n1 := rfl
  n2 := rfl
  row := fun i g s h1 h2 => by
    simp only [all0, ss0, List.getElem?_replicate] at h1 h2
    split at h1
    · rename_i hi
      rw [if_pos hi] at h2
      obtain rfl := Option.some.inj h1
      obtain rfl := Option.some.inj h2
      exact ⟨row_nil w, by simp [gp0], fun h => absurd h (by simp [gp0])⟩
    · cases h1
theorem size66 : (Try.prog.info? 66).map (·.size) = some 3 := by kernel_rfl
theorem size68 : (Try.prog.info? 68).map (·.size) = some 48 := by kernel_rfl
theorem agg68 : ∀ w, (isAgg 68).run Try.prog w = .ok true w := fun w => by simp [isAgg, run_underlying Try.underlying68]
/-- A block of groups. -/
abbrev GB (w : World) (gb : Nat) (all : List Gp) (ss : List SL) : Prop := w.heap[gb]? = some (.cells (gflat all ss).toArray 68 (0, 0))
theorem store_group {w : World} {gb : Nat} {all : List Gp} {ss : List SL} (hg : GB w gb all ss) (h1 : all.length = 16) (h2 : ss.length = 16) (i : Nat) (hi : i < 16) (g : Gp) (s : SL) :
    (storeVar 66 ⟨gb, i * 3, none⟩ (.agg #[.bool g.there, .bool g.marked, .slice s.1 g.bs.length s.2])).run Try.prog w = .ok () (w.setRow gb (gflat (all.set i g) (ss.set i s)).toArray) := by
  have hL := gflat_len all ss (by omega)
  have := store_part 66 3 size66 w gb (i * 3) _ _ hg (gcell g s) rfl (by simp [hL]; omega) (gcell_one g s)
  rw [gflat_set all ss i g s (by omega) (by omega)]
  exact this

set_option linter.unusedSimpArgs false in
set_option maxHeartbeats 4000000 in
set_option maxRecDepth 100000 in
theorem take_any {w : World} {gb : Nat} {all : List Gp} {ss : List SL} {S : List Nat} (hg : GB w gb all ss) (hG : IsG w S all ss) (hgS : gb ∈ S) (hS : ∀ x ∈ S, x < w.heap.size) (r : Rec) (hk : r.Ok) (a : Option Addr) (n cap : Nat) (hr : Row w a n r.bs) :
    Calls Try.prog 37 #[.pointer (some ⟨gb, 0, none⟩), .agg #[.int .u8 r.kind, .int .u8 r.grp, .slice a n cap]] w fun e w' => e = .returned (.tuple #[]) ∧ (∃ ss', GB w' gb (take1 all r) ss' ∧ IsG w' S (take1 all r) ss') ∧ Kp [gb] w w' := by
  obtain ⟨kd, gp, bs⟩ := r
  have a0 : 0 ≤ gp := hk.g0
  have a1 : gp < 16 := hk.g1
  have a2 : bs.length ≤ 4096 := hk.len
  have hz : bs.length = n := hr.size
  dsimp only at *
  obtain ⟨G, rfl⟩ := Int.eq_ofNat_of_zero_le a0
  have hGi : G < 16 := by omega
  have B1 : Below w.heap.size w (w.alloc (.cells #[.int .u8 kd, .int .u8 (G : Int), .slice a n cap] 79)) := Below.al (Below.refl _ _) _
  have X1 : (w.alloc (.cells #[.int .u8 kd, .int .u8 (G : Int), .slice a n cap] 79)).heap[w.heap.size]? = some (.cells #[.int .u8 kd, .int .u8 (G : Int), .slice a n cap] 79 (0, 0)) := heap_alloc_new w _
  have HR := hr.next B1
  have HG := hG.next B1
  have hgl := hS gb hgS
  have hg2 : GB (w.alloc (.cells #[.int .u8 kd, .int .u8 (G : Int), .slice a n cap] 79)) gb all ss := (B1.block gb hgl).trans hg
  have KT : Hid (∀ x ∈ S, x < w.heap.size) := hS
  clear hr hG hg hS hk
  generalize hX : (w.alloc (.cells #[.int .u8 kd, .int .u8 (G : Int), .slice a n cap] 79)) = X at *
  have HX : Hid ((w.alloc (.cells #[.int .u8 kd, .int .u8 (G : Int), .slice a n cap] 79)) = X) := hX
  have ZX : w.heap.size < X.heap.size := lt_of_heap X1
  have c0 : X.cell? ⟨w.heap.size, 0, none⟩ = some (.int .u8 kd) := by rw [cell_of_row X _ _ _ _ _ X1]; rfl
  have c1 : X.cell? ⟨w.heap.size, 1, none⟩ = some (.int .u8 (G : Int)) := by rw [cell_of_row X _ _ _ _ _ X1]; rfl
  have c2 : X.cell? ⟨w.heap.size, 2, none⟩ = some (.slice a n cap) := by rw [cell_of_row X _ _ _ _ _ X1]; rfl
  have gG : (G : Int) < 16 := by omega
  have gG0 : (0 : Int) ≤ G := by omega
  have HB1 : Hid (Below w.heap.size w X) := B1
  have HG2 : Hid (GB X gb all ss) := hg2
  have HIG : Hid (IsG X S all ss) := HG
  have HHR : Hid (Row X a n bs) := HR
  have nb : w.heap.size ≠ gb := by omega
  clear X1 B1 hg2 HG HR
  by_cases h2 : kd = 2
  · subst h2
    have T1 : Hid (take1 all ⟨2, (G : Int), bs⟩ = all.set G ⟨true, false, bs⟩) := by show take1 _ _ = _; simp [take1]
    rw [T1.out]
    have CL := clone8_any a n cap bs X.drew (HHR.out).drew (by omega)
    go_enter Try.func37, Try.ntmps37
    go_wp2_with fail
    refine wp_region_held_drew (S := fun x => x.cell? ⟨w.heap.size, 1, none⟩ = some (.int .u8 (G : Int)) ∧ x.cell? ⟨w.heap.size, 2, none⟩ = some (.slice a n cap)) (by kernel_rfl) (⟨c1, c2⟩) (fun hHeld => ?_)
    refine wpAnyH_take (i := 0) (v := (.pointer (some ⟨gb, 0, none⟩))) rfl (by kernel_rfl) (by kernel_rfl) (by kernel_rfl) (fun _ _ _ h => h) (Or.inl ⟨by rfl, ?_⟩) (by assumption) ?_
    · intro w9 hSw
      try dsimp only at hSw
      go_simp
      all_goals try decide
      all_goals try assumption
      all_goals try omega
    try simp only [Act.put, List.getElem_toArray, List.getElem_cons_succ, List.getElem_cons_zero, List.setIfInBounds_toArray, List.set_cons_zero, List.set_cons_succ]
    refine wpAnyH_take (i := 1) (v := (.pointer (some ⟨w.heap.size, 1, none⟩))) rfl (by kernel_rfl) (by kernel_rfl) (by kernel_rfl) (fun _ _ _ h => h) (Or.inl ⟨by rfl, ?_⟩) (by assumption) ?_
    · intro w9 hSw
      try dsimp only at hSw
      go_simp
      all_goals try decide
      all_goals try assumption
      all_goals try omega
    try simp only [Act.put, List.getElem_toArray, List.getElem_cons_succ, List.getElem_cons_zero, List.setIfInBounds_toArray, List.set_cons_zero, List.set_cons_succ]
    refine wpAnyH_take (i := 2) (v := (.int .u8 (G : Int))) rfl (by kernel_rfl) (by kernel_rfl) (by kernel_rfl) (fun _ _ _ h => h) (Or.inl ⟨by rfl, ?_⟩) (by assumption) ?_
    · intro w9 hSw
      try dsimp only at hSw
      go_simp
      all_goals try decide
      all_goals try assumption
      all_goals try omega
    try simp only [Act.put, List.getElem_toArray, List.getElem_cons_succ, List.getElem_cons_zero, List.setIfInBounds_toArray, List.set_cons_zero, List.set_cons_succ]
    refine wpAnyH_take (i := 3) (v := (.pointer (some ⟨w.heap.size, 2, none⟩))) rfl (by kernel_rfl) (by kernel_rfl) (by kernel_rfl) (fun _ _ _ h => h) (Or.inl ⟨by rfl, ?_⟩) (by assumption) ?_
    · intro w9 hSw
      try dsimp only at hSw
      go_simp
      all_goals try decide
      all_goals try assumption
      all_goals try omega
    try simp only [Act.put, List.getElem_toArray, List.getElem_cons_succ, List.getElem_cons_zero, List.setIfInBounds_toArray, List.set_cons_zero, List.set_cons_succ]
    refine wpAnyH_take (i := 4) (v := (.slice a n cap)) rfl (by kernel_rfl) (by kernel_rfl) (by kernel_rfl) (fun _ _ _ h => h) (Or.inl ⟨by rfl, ?_⟩) (by assumption) ?_
    · intro w9 hSw
      try dsimp only at hSw
      go_simp
      all_goals try decide
      all_goals try assumption
      all_goals try omega
    try simp only [Act.put, List.getElem_toArray, List.getElem_cons_succ, List.getElem_cons_zero, List.setIfInBounds_toArray, List.set_cons_zero, List.set_cons_succ]
    refine wpAnyH_take (i := 7) (v := (.pointer (some ⟨gb, 0, none⟩))) rfl (by kernel_rfl) (by kernel_rfl) (by kernel_rfl) (fun _ _ _ h => h) (Or.inl ⟨by rfl, ?_⟩) (by assumption) ?_
    · intro w9 hSw
      try dsimp only at hSw
      go_simp
      all_goals try decide
      all_goals try assumption
      all_goals try omega
    try simp only [Act.put, List.getElem_toArray, List.getElem_cons_succ, List.getElem_cons_zero, List.setIfInBounds_toArray, List.set_cons_zero, List.set_cons_succ]
    refine wpAnyH_ready (rs := [5]) (by kernel_rfl) (by simp) ?_
    refine AllReadyH.cons rfl (fun K' hK => ?_) AllReadyH.nil
    rw [if_pos (by rfl)]
    simp only [List.getElem_toArray, List.getElem_cons_succ, List.getElem_cons_zero]
    go_wp2_with fail
    refine (CL).mono ?_
    rintro e Y ⟨⟨a', cap', rfl, hT⟩, hbY⟩
    have KY : Kp [gb] X Y := (Kp.refl _ X).drew.trans (Kp.of hbY)
    have u1 := KY.cell c1 (by simpa using nb)
    have u2 := KY.cell c2 (by simpa using nb)
    try go_wp2_with fail
    refine hK.out _ _ (⟨u1, u2⟩) (fun hHeld => ?_)
    clear hK K'
    try simp only [Act.put, List.getElem_toArray, List.getElem_cons_succ, List.getElem_cons_zero, List.setIfInBounds_toArray, List.set_cons_zero, List.set_cons_succ]
    refine wpAnyH_take (i := 6) (v := (.agg #[.bool true, .bool false, .slice a' n cap'])) rfl (by kernel_rfl) (by kernel_rfl) (by kernel_rfl) (fun _ _ _ h => h) (Or.inl ⟨by rfl, ?_⟩) (by assumption) ?_
    · intro w9 hSw
      try dsimp only at hSw
      go_simp
      all_goals try decide
      all_goals try assumption
      all_goals try omega
    try simp only [Act.put, List.getElem_toArray, List.getElem_cons_succ, List.getElem_cons_zero, List.setIfInBounds_toArray, List.set_cons_zero, List.set_cons_succ]
    refine wpAnyH_take (i := 8) (v := (.pointer (some ⟨gb, G * 3, none⟩))) rfl (by kernel_rfl) (by kernel_rfl) (by kernel_rfl) (fun _ _ _ h => h) (Or.inl ⟨by rfl, ?_⟩) (by assumption) ?_
    · intro w9 hSw
      try dsimp only at hSw
      go_simp
      all_goals try decide
      all_goals try assumption
      all_goals try omega
    try simp only [Act.put, List.getElem_toArray, List.getElem_cons_succ, List.getElem_cons_zero, List.setIfInBounds_toArray, List.set_cons_zero, List.set_cons_succ]
    have GY : GB Y gb all ss := (hbY.block gb (by simp; omega)).trans HG2.out
    have ST := store_group GY HIG.out.n1 HIG.out.n2 G hGi ⟨true, false, bs⟩ (a', cap')
    dsimp only at ST
    rw [hz] at ST
    have KZ : Kp [gb] X (Y.setRow gb (gflat (all.set G ⟨true, false, bs⟩) (ss.set G (a', cap'))).toArray) := KY.row _ _ (.inl (by simp))
    have KYZ : Kp [gb] Y (Y.setRow gb (gflat (all.set G ⟨true, false, bs⟩) (ss.set G (a', cap'))).toArray) := (Kp.refl _ _).row _ _ (.inl (by simp))
    have FIN : Hid (Ending.returned (.tuple #[]) = .returned (.tuple #[]) ∧ (∃ ss', GB (Y.setRow gb (gflat (all.set G ⟨true, false, bs⟩) (ss.set G (a', cap'))).toArray) gb (all.set G ⟨true, false, bs⟩) ss' ∧ IsG (Y.setRow gb (gflat (all.set G ⟨true, false, bs⟩) (ss.set G (a', cap'))).toArray) S (all.set G ⟨true, false, bs⟩) ss') ∧ Kp [gb] w (Y.setRow gb (gflat (all.set G ⟨true, false, bs⟩) (ss.set G (a', cap'))).toArray)) := by
      refine ⟨rfl, ⟨_, setRow_heap Y gb _ _ _ _ GY, (HIG.out.kp KZ (by simpa using hgS)).set G ⟨true, false, bs⟩ (a', cap') ?_ a2 ?_⟩, (Kp.of HB1.out).trans KZ⟩
      · have h1 := hT.row
        rw [← hz] at h1
        exact h1.kp' KYZ (fun hp b off e => by
          obtain ⟨g, e1, e2, _⟩ := hT.own (by omega)
          have e' : a' = some ⟨b, off, none⟩ := e
          rw [e'] at e1; cases e1
          have : X.heap.size ≤ b := e2
          simp; omega)
      · intro hp b off e hm
        obtain ⟨g, e1, e2, _⟩ := hT.own (by have : 0 < bs.length := hp; omega)
        have e' : a' = some ⟨b, off, none⟩ := e
        rw [e'] at e1; cases e1
        have : X.heap.size ≤ b := e2
        have := KT.out b hm
        omega
    have SC : (fun x : World => x.cell? ⟨w.heap.size, 1, none⟩ = some (.int .u8 (G : Int)) ∧ x.cell? ⟨w.heap.size, 2, none⟩ = some (.slice a n cap)) (Y.setRow gb (gflat (all.set G ⟨true, false, bs⟩) (ss.set G (a', cap'))).toArray) := ⟨KZ.cell c1 (by simpa using nb), KZ.cell c2 (by simpa using nb)⟩
    refine wpAnyH_ready (rs := [9]) (by kernel_rfl) (by simp) ?_
    refine AllReadyH.cons rfl (fun K' hK => ?_) AllReadyH.nil
    rw [if_pos (by rfl)]
    simp only [List.getElem_toArray, List.getElem_cons_succ, List.getElem_cons_zero]
    refine wp_store_by 66 (.tmp 16) (.tmp 14) rfl _ _ rfl rfl ST ?_
    refine hK.out _ _ (SC) (fun hHeld => ?_)
    clear hK K'
    try simp only [Act.put, List.getElem_toArray, List.getElem_cons_succ, List.getElem_cons_zero, List.setIfInBounds_toArray, List.set_cons_zero, List.set_cons_succ]
    refine wpAnyH_done (by kernel_rfl) ?_ _
    go_wp2_with fail
    go_end0
    exact ⟨rfl, FIN.out.2⟩
  · by_cases h3 : kd = 3
    · subst h3
      have T1 : Hid (take1 all ⟨3, (G : Int), bs⟩ = all.set G gp0) := by show take1 _ _ = _; simp [take1]
      rw [T1.out]
      have ST := store_group (w := X.drew) HG2.out HIG.out.n1 HIG.out.n2 G hGi gp0 (none, 0)
      have FIN : Hid (Ending.returned (.tuple #[]) = .returned (.tuple #[]) ∧ (∃ ss', GB (X.drew.setRow gb (gflat (all.set G gp0) (ss.set G (none, 0))).toArray) gb (all.set G gp0) ss' ∧ IsG (X.drew.setRow gb (gflat (all.set G gp0) (ss.set G (none, 0))).toArray) S (all.set G gp0) ss') ∧ Kp [gb] w (X.drew.setRow gb (gflat (all.set G gp0) (ss.set G (none, 0))).toArray)) := by
        have K1 : Kp [gb] X (X.drew.setRow gb (gflat (all.set G gp0) (ss.set G (none, 0))).toArray) := (Kp.refl _ _).drew.row _ _ (.inl (by simp))
        exact ⟨rfl, ⟨_, setRow_heap X.drew gb _ _ _ _ HG2.out, (HIG.out.kp K1 (by simpa using hgS)).set G gp0 (none, 0) (row_nil _) (by simp [gp0]) (fun h => absurd h (by simp [gp0]))⟩, (Kp.of HB1.out).trans K1⟩
      have SC : (X.drew.setRow gb (gflat (all.set G gp0) (ss.set G (none, 0))).toArray).cell? ⟨w.heap.size, 1, none⟩ = some (.int .u8 (G : Int)) := by
        rw [World.cell?_of_block (w := X.drew) (setRow_other X.drew gb w.heap.size _ nb)]; exact c1
      go_enter Try.func37, Try.ntmps37
      go_wp2_with fail
      refine wp_region_held_drew (S := fun x => x.cell? ⟨w.heap.size, 1, none⟩ = some (.int .u8 (G : Int))) (by kernel_rfl) (c1) (fun hHeld => ?_)
      refine wpAnyH_take (i := 0) (v := (.pointer (some ⟨gb, 0, none⟩))) rfl (by kernel_rfl) (by kernel_rfl) (by kernel_rfl) (fun _ _ _ h => h) (Or.inl ⟨by rfl, ?_⟩) (by assumption) ?_
      · intro w9 hSw
        try dsimp only at hSw
        go_simp
        all_goals try decide
        all_goals try assumption
        all_goals try omega
      try simp only [Act.put, List.getElem_toArray, List.getElem_cons_succ, List.getElem_cons_zero, List.setIfInBounds_toArray, List.set_cons_zero, List.set_cons_succ]
      refine wpAnyH_take (i := 1) (v := (.pointer (some ⟨w.heap.size, 1, none⟩))) rfl (by kernel_rfl) (by kernel_rfl) (by kernel_rfl) (fun _ _ _ h => h) (Or.inl ⟨by rfl, ?_⟩) (by assumption) ?_
      · intro w9 hSw
        try dsimp only at hSw
        go_simp
        all_goals try decide
        all_goals try assumption
        all_goals try omega
      try simp only [Act.put, List.getElem_toArray, List.getElem_cons_succ, List.getElem_cons_zero, List.setIfInBounds_toArray, List.set_cons_zero, List.set_cons_succ]
      refine wpAnyH_take (i := 2) (v := (.int .u8 (G : Int))) rfl (by kernel_rfl) (by kernel_rfl) (by kernel_rfl) (fun _ _ _ h => h) (Or.inl ⟨by rfl, ?_⟩) (by assumption) ?_
      · intro w9 hSw
        try dsimp only at hSw
        go_simp
        all_goals try decide
        all_goals try assumption
        all_goals try omega
      try simp only [Act.put, List.getElem_toArray, List.getElem_cons_succ, List.getElem_cons_zero, List.setIfInBounds_toArray, List.set_cons_zero, List.set_cons_succ]
      refine wpAnyH_take (i := 3) (v := (.agg #[.bool false, .bool false, .slice none 0 0])) rfl (by kernel_rfl) (by kernel_rfl) (by kernel_rfl) (fun _ _ _ h => h) (Or.inl ⟨by rfl, ?_⟩) (by assumption) ?_
      · intro w9 hSw
        try dsimp only at hSw
        go_simp
        all_goals try decide
        all_goals try assumption
        all_goals try omega
      try simp only [Act.put, List.getElem_toArray, List.getElem_cons_succ, List.getElem_cons_zero, List.setIfInBounds_toArray, List.set_cons_zero, List.set_cons_succ]
      refine wpAnyH_take (i := 4) (v := (.pointer (some ⟨gb, 0, none⟩))) rfl (by kernel_rfl) (by kernel_rfl) (by kernel_rfl) (fun _ _ _ h => h) (Or.inl ⟨by rfl, ?_⟩) (by assumption) ?_
      · intro w9 hSw
        try dsimp only at hSw
        go_simp
        all_goals try decide
        all_goals try assumption
        all_goals try omega
      try simp only [Act.put, List.getElem_toArray, List.getElem_cons_succ, List.getElem_cons_zero, List.setIfInBounds_toArray, List.set_cons_zero, List.set_cons_succ]
      refine wpAnyH_take (i := 5) (v := (.pointer (some ⟨gb, G * 3, none⟩))) rfl (by kernel_rfl) (by kernel_rfl) (by kernel_rfl) (fun _ _ _ h => h) (Or.inl ⟨by rfl, ?_⟩) (by assumption) ?_
      · intro w9 hSw
        try dsimp only at hSw
        go_simp
        all_goals try decide
        all_goals try assumption
        all_goals try omega
      try simp only [Act.put, List.getElem_toArray, List.getElem_cons_succ, List.getElem_cons_zero, List.setIfInBounds_toArray, List.set_cons_zero, List.set_cons_succ]
      refine wpAnyH_ready (rs := [6]) (by kernel_rfl) (by simp) ?_
      refine AllReadyH.cons rfl (fun K' hK => ?_) AllReadyH.nil
      rw [if_pos (by rfl)]
      simp only [List.getElem_toArray, List.getElem_cons_succ, List.getElem_cons_zero]
      refine wp_store_by 66 (.tmp 24) (.tmp 22) rfl _ _ rfl rfl ST ?_
      refine hK.out _ _ (SC) (fun hHeld => ?_)
      clear hK K'
      try simp only [Act.put, List.getElem_toArray, List.getElem_cons_succ, List.getElem_cons_zero, List.setIfInBounds_toArray, List.set_cons_zero, List.set_cons_succ]
      refine wpAnyH_done (by kernel_rfl) ?_ _
      go_wp2_with fail
      go_end0
      exact ⟨rfl, FIN.out.2⟩
    · have T1 : Hid (take1 all ⟨kd, (G : Int), bs⟩ = all) := by show take1 _ _ = _; simp [take1, h2, h3]
      rw [T1.out]
      have g2 : (kd == 2) = false := by simp [h2]
      have g3 : (kd == 3) = false := by simp [h3]
      go_enter Try.func37, Try.ntmps37
      go_wp2_with fail
      go_end0
      exact ⟨rfl, ⟨_, HG2.out, HIG.out⟩, Kp.of HB1.out⟩
#print axioms take_any
end Go.Proofs.Ytgpbmccjcjoijaa
