/-
  The walk of keep.
-/
import Derived.Test.YtgpbmccjcjoijaaJu
namespace Go.Proofs.Ytgpbmccjcjoijaa
open Go.RowKit

/-- A record brought to the flash: what is answered, the journal behind it, the flash. -/
def keepJ (n first k : Nat) (j : JS) (r : Rec) (af : List Gp) (s : FS) : Int × JS × FS :=
  if (addP n (j.f1 first k) k j.bg j.en r s).1 = 60 ∨ (addP n (j.f1 first k) k j.bg j.en r s).1 = 51 then
    (if (fillP n (j.f2 first k) k ((j.num + 1) % 256) af (addP n (j.f1 first k) k j.bg j.en r s).2.2).1 = 0 then (0, ⟨!j.hi, true, (j.num + 1) % 256, (fillP n (j.f2 first k) k ((j.num + 1) % 256) af (addP n (j.f1 first k) k j.bg j.en r s).2.2).2.1, af, false⟩, (fillP n (j.f2 first k) k ((j.num + 1) % 256) af (addP n (j.f1 first k) k j.bg j.en r s).2.2).2.2)
     else ((fillP n (j.f2 first k) k ((j.num + 1) % 256) af (addP n (j.f1 first k) k j.bg j.en r s).2.2).1, { j with cut := (fillP n (j.f2 first k) k ((j.num + 1) % 256) af (addP n (j.f1 first k) k j.bg j.en r s).2.2).1 == 7 }, (fillP n (j.f2 first k) k ((j.num + 1) % 256) af (addP n (j.f1 first k) k j.bg j.en r s).2.2).2.2))
  else if (addP n (j.f1 first k) k j.bg j.en r s).1 = 0 then (0, ⟨j.hi, j.bg, j.num, (addP n (j.f1 first k) k j.bg j.en r s).2.1, af, false⟩, (addP n (j.f1 first k) k j.bg j.en r s).2.2)
  else ((addP n (j.f1 first k) k j.bg j.en r s).1, { j with cut := (addP n (j.f1 first k) k j.bg j.en r s).1 == 7 }, (addP n (j.f1 first k) k j.bg j.en r s).2.2)
theorem keepJ_m0 {n first k : Nat} {j : JS} {r : Rec} {af : List Gp} {s t u : FS} {E : Int} {e1 e2 : Nat} (ha : addP n (j.f1 first k) k j.bg j.en r s = (E, e1, t)) (hE : E = 60 ∨ E = 51) (hm : fillP n (j.f2 first k) k ((j.num + 1) % 256) af t = (0, e2, u)) : keepJ n first k j r af s = (0, ⟨!j.hi, true, (j.num + 1) % 256, e2, af, false⟩, u) := by
  unfold keepJ; rw [ha, if_pos hE]; dsimp only; rw [hm, if_pos rfl]
theorem keepJ_m {n first k : Nat} {j : JS} {r : Rec} {af : List Gp} {s t u : FS} {E F : Int} {e1 e2 : Nat} (ha : addP n (j.f1 first k) k j.bg j.en r s = (E, e1, t)) (hE : E = 60 ∨ E = 51) (hm : fillP n (j.f2 first k) k ((j.num + 1) % 256) af t = (F, e2, u)) (hF : F ≠ 0) : keepJ n first k j r af s = (F, { j with cut := F == 7 }, u) := by
  unfold keepJ; rw [ha, if_pos hE]; dsimp only; rw [hm, if_neg hF]
theorem keepJ_a0 {n first k : Nat} {j : JS} {r : Rec} {af : List Gp} {s t : FS} {e1 : Nat} (ha : addP n (j.f1 first k) k j.bg j.en r s = (0, e1, t)) : keepJ n first k j r af s = (0, ⟨j.hi, j.bg, j.num, e1, af, false⟩, t) := by
  unfold keepJ; rw [ha, if_neg (fun h => by rcases h with h | h <;> cases h), if_pos rfl]
theorem keepJ_a {n first k : Nat} {j : JS} {r : Rec} {af : List Gp} {s t : FS} {E : Int} {e1 : Nat} (ha : addP n (j.f1 first k) k j.bg j.en r s = (E, e1, t)) (hE : ¬ (E = 60 ∨ E = 51)) (h0 : E ≠ 0) : keepJ n first k j r af s = (E, { j with cut := E == 7 }, t) := by
  unfold keepJ; rw [ha, if_neg hE, if_neg h0]
/-- What may be said of a journal's numbers. -/
structure JS.Ok (j : JS) (k : Nat) : Prop where
  en : j.en ≤ 1024 * k
  en4 : j.en % 4 = 0
  num : 0 ≤ j.num ∧ j.num < 256
def KeepPost (w : World) (p B n cap q first k : Nat) (S : List Nat) (R : Int × JS × FS) (e : Ending) (w' : World) : Prop :=
  e = .returned (.int .i64 R.1) ∧ IsS w' p B n cap R.2.2 ∧ IsJ w' S q p first k R.2.1 ∧ Kp [p, B, q] w w'

set_option linter.unusedSimpArgs false in
set_option maxHeartbeats 8000000 in
set_option maxRecDepth 100000 in
theorem keep_any {w : World} {p B n cap : Nat} {s : FS} (hF : IsS w p B n cap s) (m : Nat) (hm : s.Le m) (hm2 : m ≤ 700000000) {q first k : Nat} {j : JS} {S : List Nat} (hJ : IsJ w S q p first k j) (hOk : j.Ok k) (hqp : q ≠ p) (hqB : q ≠ B) (hk : 1 ≤ k) (hfk : first + k + k ≤ n) (hpS : p ∈ S) (hBS : B ∈ S) (hqS : q ∈ S) (r : Rec) (hr : r.Ok) (a : Option Addr) (l cap2 : Nat) (hrow : Row w a l r.bs) (af : List Gp) (sa : List SL) (hG : IsG w S af sa) :
    Calls Try.prog 36 #[.pointer (some ⟨q, 0, none⟩), .agg #[.int .u8 r.kind, .int .u8 r.grp, .slice a l cap2], .agg (gflat af sa).toArray] w fun e w' => KeepPost w p B n cap q first k S (keepJ n first k j r af s) e w' := by
  have hlt := hF.lt
  obtain ⟨ss, hB, hI⟩ := hJ
  have hB : JB w q p (j.f1 first k) (j.f2 first k) k j.bg j.num j.en j.all ss j.cut := hB
  have hq : q < w.heap.size := lt_of_heap hB
  obtain ⟨C, hC⟩ : ∃ C, Hid ((gflat af sa).toArray = C) := ⟨_, rfl⟩
  have hf1 : j.f1 first k + k ≤ n := by unfold JS.f1; split <;> omega
  have hf2 : j.f2 first k + k ≤ n := by unfold JS.f2; split <;> omega
  have T1 : Hid (∀ b nm e al c, (⟨!j.hi, b, nm, e, al, c⟩ : JS).f1 first k = j.f2 first k ∧ (⟨!j.hi, b, nm, e, al, c⟩ : JS).f2 first k = j.f1 first k) := fun b nm e al c => by
    unfold JS.f1 JS.f2; cases j.hi <;> exact ⟨rfl, rfl⟩
  have bX : Below w.heap.size w ((w.alloc (.cells #[.int .u8 r.kind, .int .u8 r.grp, .slice a l cap2] 79)).alloc (.cells C 68)) := Below.al (Below.al (Below.refl _ _) _) _
  have gX : GB ((w.alloc (.cells #[.int .u8 r.kind, .int .u8 r.grp, .slice a l cap2] 79)).alloc (.cells C 68)) (w.heap.size + 1) af sa := by
    rw [← hC.out]
    have := heap_alloc_new (w.alloc (.cells #[.int .u8 r.kind, .int .u8 r.grp, .slice a l cap2] 79)) (.cells (gflat af sa).toArray 68)
    rwa [World.size_alloc] at this
  have rX : ((w.alloc (.cells #[.int .u8 r.kind, .int .u8 r.grp, .slice a l cap2] 79)).alloc (.cells C 68)).heap[w.heap.size]? = some (.cells #[.int .u8 r.kind, .int .u8 r.grp, .slice a l cap2] 79 (0, 0)) := by
    rw [Below.heap_alloc _ _ _ (by simp)]; exact heap_alloc_new w _
  have hX := (bX.block q hq).trans hB
  have hFX := hF.next bX
  have hGX := hG.next bX
  have hIX := hI.next bX
  have rowX := hrow.next bX
  rw [hC.out]
  obtain ⟨R, hR⟩ : ∃ R, Hid (keepJ n first k j r af s = R) := ⟨_, rfl⟩
  rw [hR.out]
  clear hF hG hB hI hrow
  go_enter Try.func36, Try.ntmps36
  go_wp2_with fail
  generalize hXX : ((w.alloc (.cells #[.int .u8 r.kind, .int .u8 r.grp, .slice a l cap2] 79)).alloc (.cells C 68)) = X at *
  generalize hz0 : w.heap.size = z at *
  have HZ0 : Hid (w.heap.size = z) := hz0
  clear hXX hz0
  have hX : JB X q p (j.f1 first k) (j.f2 first k) k j.bg j.num j.en j.all ss j.cut := hX
  have wX : Kp [] w X := Kp.of (by rw [HZ0.out]; exact bX)
  have e0 := hOk.en
  have e4 := hOk.en4
  have hXd : JB X.drew q p (j.f1 first k) (j.f2 first k) k j.bg j.num j.en j.all ss j.cut := hX
  have AD := add_any (hFX.keep (w' := X.drew) rfl rfl) m hm (by omega) q (j.f1 first k) k j.en j.bg hqp hqB hXd.c0 hXd.c1 hXd.c2 hXd.c3 hXd.c5 (hXd.fz 5) hf1 e0 (fun _ => e4) r hr a l cap2 rowX.drew
  have ALE : Hid (∀ E e1 t, addP n (j.f1 first k) k j.bg j.en r s = (E, e1, t) → t.Le (m + 4112)) := fun E e1 t h => by
    have hw := regW_le n (j.f1 first k) _ (enc r) j.en s m (Nat.le_refl _) hm
    have h2 := rm_lt r.bs.length
    have h3 := enc_len r
    have h4 := hr.len
    unfold addP at h
    split at h
    · cases h; exact hm.more (by omega)
    · split at h <;> (cases h; exact hw.more (by omega))
  obtain ⟨E, e1, t, ha⟩ : ∃ E e1 t, Hid (addP n (j.f1 first k) k j.bg j.en r s = (E, e1, t)) := ⟨_, _, _, rfl⟩
  rw [ha.out] at AD
  have tle := ALE.out _ _ _ ha.out
  have x0 : X.cell? ⟨z, 0, none⟩ = some (.int .u8 r.kind) := by rw [cell_of_row X _ _ _ _ _ rX]; rfl
  have x1 : X.cell? ⟨z, 1, none⟩ = some (.int .u8 r.grp) := by rw [cell_of_row X _ _ _ _ _ rX]; rfl
  have x2 : X.cell? ⟨z, 2, none⟩ = some (.slice a l cap2) := by rw [cell_of_row X _ _ _ _ _ rX]; rfl
  have nzq : z ∉ [p, B, q] := by simp; omega
  have nzq1 : z + 1 ∉ [p, B, q] := by simp; omega
  have gz : z + 1 < X.heap.size := lt_of_heap gX
  clear hXd rX rowX ALE hFX
  go_wp2_with fail
  refine wp_region_held_drew (S := fun x => x.cell? ⟨z, 0, none⟩ = some (.int .u8 r.kind) ∧ x.cell? ⟨z, 1, none⟩ = some (.int .u8 r.grp) ∧ x.cell? ⟨z, 2, none⟩ = some (.slice a l cap2)) (by kernel_rfl) (⟨x0, x1, x2⟩) (fun hHeld => ?_)
  refine wpAnyH_take (i := 0) (v := (.pointer (some ⟨q, 0, none⟩))) rfl (by kernel_rfl) (by kernel_rfl) (by kernel_rfl) (fun _ _ _ h => h) (Or.inl ⟨by rfl, ?_⟩) (by assumption) ?_
  · intro w9 hSw
    try dsimp only at hSw
    go_simp
    all_goals try decide
    all_goals try assumption
    all_goals try omega
  try simp only [Act.put, List.getElem_toArray, List.getElem_cons_succ, List.getElem_cons_zero, List.setIfInBounds_toArray, List.set_cons_zero, List.set_cons_succ]
  refine wpAnyH_take (i := 1) (v := (.pointer (some ⟨q, 0, none⟩))) rfl (by kernel_rfl) (by kernel_rfl) (by kernel_rfl) (fun _ _ _ h => h) (Or.inl ⟨by rfl, ?_⟩) (by assumption) ?_
  · intro w9 hSw
    try dsimp only at hSw
    go_simp
    all_goals try decide
    all_goals try assumption
    all_goals try omega
  try simp only [Act.put, List.getElem_toArray, List.getElem_cons_succ, List.getElem_cons_zero, List.setIfInBounds_toArray, List.set_cons_zero, List.set_cons_succ]
  refine wpAnyH_take (i := 2) (v := (.pointer (some ⟨q, 0, none⟩))) rfl (by kernel_rfl) (by kernel_rfl) (by kernel_rfl) (fun _ _ _ h => h) (Or.inl ⟨by rfl, ?_⟩) (by assumption) ?_
  · intro w9 hSw
    try dsimp only at hSw
    go_simp
    all_goals try decide
    all_goals try assumption
    all_goals try omega
  try simp only [Act.put, List.getElem_toArray, List.getElem_cons_succ, List.getElem_cons_zero, List.setIfInBounds_toArray, List.set_cons_zero, List.set_cons_succ]
  refine wpAnyH_take (i := 3) (v := (.agg #[.int .u8 r.kind, .int .u8 r.grp, .slice a l cap2])) rfl (by kernel_rfl) (by kernel_rfl) (by kernel_rfl) (fun _ _ _ h => h) (Or.inl ⟨by rfl, ?_⟩) (by assumption) ?_
  · intro w9 hSw
    try dsimp only at hSw
    go_simp
    all_goals try decide
    all_goals try assumption
    all_goals try omega
  try simp only [Act.put, List.getElem_toArray, List.getElem_cons_succ, List.getElem_cons_zero, List.setIfInBounds_toArray, List.set_cons_zero, List.set_cons_succ]
  refine wpAnyH_ready (rs := [4]) (by kernel_rfl) (by simp) ?_
  refine AllReadyH.cons rfl (fun K' hK => ?_) AllReadyH.nil
  rw [if_pos (by rfl)]
  simp only [List.getElem_toArray, List.getElem_cons_succ, List.getElem_cons_zero]
  go_wp2_with fail
  refine (AD).mono ?_
  rintro e U ⟨w1, rfl, hF1, hK1, hU⟩
  have hKU : Kp [p, B, q] X U := by
    have h1 : Kp [p, B, q] X w1 := (Kp.refl _ _).drew.trans (hK1.more (by simp))
    rw [hU]; split
    · exact h1.set _ _ (.inl (by simp))
    · exact h1
  have HU : Hid (U = _) := hU
  clear hU
  try go_wp2_with fail
  refine hK.out _ _ (⟨hKU.cell x0 nzq, hKU.cell x1 nzq, hKU.cell x2 nzq⟩) (fun hHeld => ?_)
  clear hK K'
  try simp only [Act.put, List.getElem_toArray, List.getElem_cons_succ, List.getElem_cons_zero, List.setIfInBounds_toArray, List.set_cons_zero, List.set_cons_succ]
  refine wpAnyH_take (i := 5) (v := (.int .i64 E)) rfl (by kernel_rfl) (by kernel_rfl) (by kernel_rfl) (fun _ _ _ h => h) (Or.inl ⟨by rfl, ?_⟩) (by assumption) ?_
  · intro w9 hSw
    try dsimp only at hSw
    go_simp
    all_goals try decide
    all_goals try assumption
    all_goals try omega
  try simp only [Act.put, List.getElem_toArray, List.getElem_cons_succ, List.getElem_cons_zero, List.setIfInBounds_toArray, List.set_cons_zero, List.set_cons_succ]
  refine wpAnyH_done (by kernel_rfl) ?_ _
  clear AD
  have hU := HU.out
  clear HU
  have KX1 : Kp [p, B] X w1 := (Kp.refl _ _).drew.trans hK1
  have J1 : JB w1 q p (j.f1 first k) (j.f2 first k) k j.bg j.num j.en j.all ss j.cut := (KX1.block q (by omega) (by simp [hqp, hqB])).trans hX
  have gW1 : GB w1 (z + 1) af sa := (KX1.block _ gz (by simp; omega)).trans gX
  have G1 := hGX.kp KX1 (fun x hx => by simp at hx; rcases hx with rfl | rfl <;> assumption)
  have I1 := hIX.kp KX1 (fun x hx => by simp at hx; rcases hx with rfl | rfl <;> assumption)
  have k1 : Kp [p, B] w w1 := (wX.more (by simp)).trans KX1
  have qS : ∀ x ∈ [q], x ∈ S := fun x hx => by simp at hx; subst hx; exact hqS
  clear x0 x1 x2 hX hGX hIX gX KX1 hK1
  have HG1 : Hid (IsG w1 S af sa) := G1
  have HI1 : Hid (IsG w1 S j.all ss) := I1
  have HgW : Hid (GB w1 (z + 1) af sa) := gW1
  have Hk1 : Hid (Kp [p, B] w w1) := k1
  have HJ1 : Hid (JB w1 q p (j.f1 first k) (j.f2 first k) k j.bg j.num j.en j.all ss j.cut) := J1
  by_cases hfull : E = 60 ∨ E = 51
  · have hE0 : E ≠ 0 := by rcases hfull with h | h <;> (rw [h]; decide)
    rw [if_neg hE0] at hU
    subst hU
    have MV := move_any hF1 (m + 4112) tle (by omega) J1 I1.n1 I1.n2 hqp hqB hk hf2 S hpS hBS af sa G1
    rw [hC.out] at MV
    obtain ⟨F, e2, u, hf⟩ : ∃ F e2 u, Hid (fillP n (j.f2 first k) k ((j.num + 1) % 256) af t = (F, e2, u)) := ⟨_, _, _, rfl⟩
    rw [hf.out] at MV
    have LG : (loadVar 68 ⟨z + 1, 0, none⟩).run Try.prog U = .ok (.agg C) U := by
      have := load68 G1.n1 G1.n2 gW1
      rwa [hC.out] at this
    have HFU : Hid (E = 60 ∨ E = 51) := hfull
    clear G1 I1 gW1 k1 J1 hF1
    by_cases h60 : E = 60
    · subst h60
      clear hfull hE0
      go_wp2_with (refine wpList_load_by rfl 68 (.tmp 5) rfl _ _ rfl LG ?_)
      with_reducible refine MV.mono ?_
      rintro e V ⟨rfl, hFV, hJV, hKV⟩
      clear MV LG
      have hFV : IsS V p B n cap u := hFV
      have HFV : Hid (IsS V p B n cap u) := hFV
      have HKV : Hid (Kp [p, B, q] U V) := hKV
      have HJV : Hid (if F = 0 then JB V q p (j.f2 first k) (j.f1 first k) k true ((j.num + 1) % 256) e2 j.all ss j.cut else JB V q p (j.f1 first k) (j.f2 first k) k j.bg j.num j.en j.all ss j.cut) := hJV
      clear hFV hKV hJV
      have sub : ∀ x ∈ [p, B, q], x ∈ S := fun x hx => by simp at hx; rcases hx with rfl | rfl | rfl <;> assumption
      have gV : GB V (z + 1) af sa := (HKV.out.block _ (lt_of_heap HgW.out) nzq1).trans HgW.out
      have GV := HG1.out.kp HKV.out sub
      have IV := HI1.out.kp HKV.out sub
      have kV : Kp [p, B, q] w V := (Hk1.out.more (by simp)).trans HKV.out
      have fV := HFV.out
      have jV := HJV.out
      by_cases hE0 : F = 0
      · subst hE0
        rw [if_pos rfl] at jV
        have RR : R = (0, ⟨!j.hi, true, (j.num + 1) % 256, e2, af, false⟩, u) := by rw [← hR.out]; exact keepJ_m0 ha.out (by decide) hf.out
        have F12 : Hid ((⟨!j.hi, true, (j.num + 1) % 256, e2, af, false⟩ : JS).f1 first k = j.f2 first k ∧ (⟨!j.hi, true, (j.num + 1) % 256, e2, af, false⟩ : JS).f2 first k = j.f1 first k) := T1.out _ _ _ _ _
        have JC := jV.setCut IV.n1 IV.n2 false
        have KC : Kp [q] V (V.setCell ⟨q, 57, none⟩ (.bool false)) := (Kp.refl _ _).set _ _ (.inl (by simp))
        have gC : GB (V.setCell ⟨q, 57, none⟩ (.bool false)) (z + 1) af sa := (KC.block _ (lt_of_heap gV) (by simp; omega)).trans gV
        have LC := load68 GV.n1 GV.n2 gC
        obtain ⟨V2, s2, J2, k2⟩ := JC.store68 IV.n1 IV.n2 af sa GV.n1 GV.n2
        rw [hC.out] at LC s2
        have KK := KC.trans k2
        have HFIN : Hid (KeepPost w p B n cap q first k S R (.returned (.int .i64 0)) V2) := by
          rw [RR]
          refine ⟨rfl, fV.kp KK (by simpa using Ne.symm hqp) (by simpa using Ne.symm hqB), ⟨sa, ?_, GV.kp KK qS⟩, kV.trans (KK.more (by simp))⟩
          rw [F12.out.1, F12.out.2]; exact J2
        have cq := jV.cc IV.n1 IV.n2
        have fq := jV.fz 57
        clear JC KC gC J2 k2 KK fV GV IV gV kV jV RR F12
        go_wp2_with (first | refine wpList_load_by rfl 68 (.tmp 5) rfl _ _ rfl LC ?_ | refine wpList_store_by rfl 68 (.tmp 32) (.tmp 30) rfl _ _ rfl rfl s2 ?_)
        go_ret
        exact HFIN.out
      · rw [if_neg hE0] at jV
        have RR : R = (F, { j with cut := F == 7 }, u) := by rw [← hR.out]; exact keepJ_m ha.out (by decide) hf.out hE0
        clear GV gV
        have JC := jV.setCut IV.n1 IV.n2 (F == 7)
        have KC : Kp [q] V (V.setCell ⟨q, 57, none⟩ (.bool (F == 7))) := (Kp.refl _ _).set _ _ (.inl (by simp))
        have HFIN : Hid (KeepPost w p B n cap q first k S R (.returned (.int .i64 F)) (V.setCell ⟨q, 57, none⟩ (.bool (F == 7)))) := by
          rw [RR]
          exact ⟨rfl, fV.kp KC (by simpa using Ne.symm hqp) (by simpa using Ne.symm hqB), ⟨ss, JC, IV.kp KC qS⟩, kV.trans (KC.more (by simp))⟩
        have cq := jV.cc IV.n1 IV.n2
        have fq := jV.fz 57
        have gE : (F == 0) = false := by simp [hE0]
        clear JC KC fV IV kV jV RR
        go_wp2_with fail
        go_ret
        exact HFIN.out
    · obtain rfl : E = 51 := by rcases hfull with h | h; exact absurd h h60; exact h
      clear hfull hE0 h60
      go_wp2_with (refine wpList_load_by rfl 68 (.tmp 5) rfl _ _ rfl LG ?_)
      with_reducible refine MV.mono ?_
      rintro e V ⟨rfl, hFV, hJV, hKV⟩
      clear MV LG
      have hFV : IsS V p B n cap u := hFV
      have HFV : Hid (IsS V p B n cap u) := hFV
      have HKV : Hid (Kp [p, B, q] U V) := hKV
      have HJV : Hid (if F = 0 then JB V q p (j.f2 first k) (j.f1 first k) k true ((j.num + 1) % 256) e2 j.all ss j.cut else JB V q p (j.f1 first k) (j.f2 first k) k j.bg j.num j.en j.all ss j.cut) := hJV
      clear hFV hKV hJV
      have sub : ∀ x ∈ [p, B, q], x ∈ S := fun x hx => by simp at hx; rcases hx with rfl | rfl | rfl <;> assumption
      have gV : GB V (z + 1) af sa := (HKV.out.block _ (lt_of_heap HgW.out) nzq1).trans HgW.out
      have GV := HG1.out.kp HKV.out sub
      have IV := HI1.out.kp HKV.out sub
      have kV : Kp [p, B, q] w V := (Hk1.out.more (by simp)).trans HKV.out
      have fV := HFV.out
      have jV := HJV.out
      by_cases hE0 : F = 0
      · subst hE0
        rw [if_pos rfl] at jV
        have RR : R = (0, ⟨!j.hi, true, (j.num + 1) % 256, e2, af, false⟩, u) := by rw [← hR.out]; exact keepJ_m0 ha.out (by decide) hf.out
        have F12 : Hid ((⟨!j.hi, true, (j.num + 1) % 256, e2, af, false⟩ : JS).f1 first k = j.f2 first k ∧ (⟨!j.hi, true, (j.num + 1) % 256, e2, af, false⟩ : JS).f2 first k = j.f1 first k) := T1.out _ _ _ _ _
        have JC := jV.setCut IV.n1 IV.n2 false
        have KC : Kp [q] V (V.setCell ⟨q, 57, none⟩ (.bool false)) := (Kp.refl _ _).set _ _ (.inl (by simp))
        have gC : GB (V.setCell ⟨q, 57, none⟩ (.bool false)) (z + 1) af sa := (KC.block _ (lt_of_heap gV) (by simp; omega)).trans gV
        have LC := load68 GV.n1 GV.n2 gC
        obtain ⟨V2, s2, J2, k2⟩ := JC.store68 IV.n1 IV.n2 af sa GV.n1 GV.n2
        rw [hC.out] at LC s2
        have KK := KC.trans k2
        have HFIN : Hid (KeepPost w p B n cap q first k S R (.returned (.int .i64 0)) V2) := by
          rw [RR]
          refine ⟨rfl, fV.kp KK (by simpa using Ne.symm hqp) (by simpa using Ne.symm hqB), ⟨sa, ?_, GV.kp KK qS⟩, kV.trans (KK.more (by simp))⟩
          rw [F12.out.1, F12.out.2]; exact J2
        have cq := jV.cc IV.n1 IV.n2
        have fq := jV.fz 57
        clear JC KC gC J2 k2 KK fV GV IV gV kV jV RR F12
        go_wp2_with (first | refine wpList_load_by rfl 68 (.tmp 5) rfl _ _ rfl LC ?_ | refine wpList_store_by rfl 68 (.tmp 32) (.tmp 30) rfl _ _ rfl rfl s2 ?_)
        go_ret
        exact HFIN.out
      · rw [if_neg hE0] at jV
        have RR : R = (F, { j with cut := F == 7 }, u) := by rw [← hR.out]; exact keepJ_m ha.out (by decide) hf.out hE0
        clear GV gV
        have JC := jV.setCut IV.n1 IV.n2 (F == 7)
        have KC : Kp [q] V (V.setCell ⟨q, 57, none⟩ (.bool (F == 7))) := (Kp.refl _ _).set _ _ (.inl (by simp))
        have HFIN : Hid (KeepPost w p B n cap q first k S R (.returned (.int .i64 F)) (V.setCell ⟨q, 57, none⟩ (.bool (F == 7)))) := by
          rw [RR]
          exact ⟨rfl, fV.kp KC (by simpa using Ne.symm hqp) (by simpa using Ne.symm hqB), ⟨ss, JC, IV.kp KC qS⟩, kV.trans (KC.more (by simp))⟩
        have cq := jV.cc IV.n1 IV.n2
        have fq := jV.fz 57
        have gE : (F == 0) = false := by simp [hE0]
        clear JC KC fV IV kV jV RR
        go_wp2_with fail
        go_ret
        exact HFIN.out
  · have n60 : E ≠ 60 := fun h => hfull (.inl h)
    have n51 : E ≠ 51 := fun h => hfull (.inr h)
    have HFU : Hid (¬ (E = 60 ∨ E = 51)) := hfull
    have g60 : (E == 60) = false := by simp [n60]
    have g51 : (E == 51) = false := by simp [n51]
    by_cases hE0 : E = 0
    · subst hE0
      rw [if_pos rfl] at hU
      have K9 : Kp [q] w1 U := by rw [hU]; exact (Kp.refl _ _).set _ _ (.inl (by simp))
      have jV : JB U q p (j.f1 first k) (j.f2 first k) k j.bg j.num e1 j.all ss j.cut := by rw [hU]; exact J1.setEn e1
      have fV : IsS U p B n cap t := hF1.kp K9 (by simpa using Ne.symm hqp) (by simpa using Ne.symm hqB)
      have gV : GB U (z + 1) af sa := (K9.block _ (lt_of_heap gW1) (by simp; omega)).trans gW1
      have kV : Kp [p, B, q] w U := (k1.more (by simp)).trans (K9.more (by simp))
      have GV := G1.kp K9 qS
      have IV := I1.kp K9 qS
      have RR : R = (0, ⟨j.hi, j.bg, j.num, e1, af, false⟩, t) := by rw [← hR.out]; exact keepJ_a0 ha.out
      have F12 : Hid ((⟨j.hi, j.bg, j.num, e1, af, false⟩ : JS).f1 first k = j.f1 first k ∧ (⟨j.hi, j.bg, j.num, e1, af, false⟩ : JS).f2 first k = j.f2 first k) := ⟨rfl, rfl⟩
      clear hU G1 I1 gW1 k1 J1 hF1 n60 n51 g60 g51 hfull K9
      have JC := jV.setCut IV.n1 IV.n2 false
      have KC : Kp [q] U (U.setCell ⟨q, 57, none⟩ (.bool false)) := (Kp.refl _ _).set _ _ (.inl (by simp))
      have gC : GB (U.setCell ⟨q, 57, none⟩ (.bool false)) (z + 1) af sa := (KC.block _ (lt_of_heap gV) (by simp; omega)).trans gV
      have LC := load68 GV.n1 GV.n2 gC
      obtain ⟨V2, s2, J2, k2⟩ := JC.store68 IV.n1 IV.n2 af sa GV.n1 GV.n2
      rw [hC.out] at LC s2
      have KK := KC.trans k2
      have HFIN : Hid (KeepPost w p B n cap q first k S R (.returned (.int .i64 0)) V2) := by
        rw [RR]
        refine ⟨rfl, fV.kp KK (by simpa using Ne.symm hqp) (by simpa using Ne.symm hqB), ⟨sa, ?_, GV.kp KK qS⟩, kV.trans (KK.more (by simp))⟩
        rw [F12.out.1, F12.out.2]; exact J2
      have cq := jV.cc IV.n1 IV.n2
      have fq := jV.fz 57
      clear JC KC gC J2 k2 KK fV GV IV gV kV jV RR F12
      go_wp2_with (first | refine wpList_load_by rfl 68 (.tmp 5) rfl _ _ rfl LC ?_ | refine wpList_store_by rfl 68 (.tmp 32) (.tmp 30) rfl _ _ rfl rfl s2 ?_)
      go_ret
      exact HFIN.out
    · rw [if_neg hE0] at hU
      subst hU
      have jV : JB U q p (j.f1 first k) (j.f2 first k) k j.bg j.num j.en j.all ss j.cut := J1
      have kV : Kp [p, B, q] w U := k1.more (by simp)
      have fV := hF1
      have IV := I1
      have RR : R = (E, { j with cut := E == 7 }, t) := by rw [← hR.out]; exact keepJ_a ha.out HFU.out hE0
      clear G1 gW1 k1 J1 hF1 I1 hfull n60 n51
      have JC := jV.setCut IV.n1 IV.n2 (E == 7)
      have KC : Kp [q] U (U.setCell ⟨q, 57, none⟩ (.bool (E == 7))) := (Kp.refl _ _).set _ _ (.inl (by simp))
      have HFIN : Hid (KeepPost w p B n cap q first k S R (.returned (.int .i64 E)) (U.setCell ⟨q, 57, none⟩ (.bool (E == 7)))) := by
        rw [RR]
        exact ⟨rfl, fV.kp KC (by simpa using Ne.symm hqp) (by simpa using Ne.symm hqB), ⟨ss, JC, IV.kp KC qS⟩, kV.trans (KC.more (by simp))⟩
      have cq := jV.cc IV.n1 IV.n2
      have fq := jV.fz 57
      have gE : (E == 0) = false := by simp [hE0]
      clear JC KC fV IV kV jV RR
      go_wp2_with fail
      go_ret
      exact HFIN.out
#print axioms keep_any
end Go.Proofs.Ytgpbmccjcjoijaa
