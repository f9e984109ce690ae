/-
  Bits laid into a row.
-/
import Derived.Test.YtcdmldnaagiicaaDoorGb
import Derived.Test.YtcdmldnaagiicaaDoorTk9
namespace Go.Proofs.YtcdmldnaagiicaaDoor
open Go.RowKit Go.Shelf
attribute [local go_sem] Oper.semAt_some

/-- One bit more in a row. -/
def orB (ys : List Int) (k : Nat) (b : Int) : List Int := ys.set (k / 8) (bits .or .u8 (ys.getD (k / 8) 0) (IntKind.u8.wrap (b * 2 ^ (k % 8))))
theorem orB_len (ys : List Int) (k : Nat) (b : Int) : (orB ys k b).length = ys.length := by simp [orB]
/-- Bits laid into a row, one behind the other. -/
def layL (zs : List Int) (off fr : Nat) {cnt : Nat} (ys : List Int) (pre : List (BX cnt)) : List Int := pre.foldl (fun ys x => orB ys (fr + x.i) (bitA zs (off + x.i))) ys
theorem layL_len (zs : List Int) (off fr : Nat) {cnt : Nat} (ys : List Int) (pre : List (BX cnt)) : (layL zs off fr ys pre).length = ys.length := by
  unfold layL
  induction pre generalizing ys with
  | nil => rfl
  | cons x l ih => rw [List.foldl_cons, ih, orB_len]
theorem layL_app (zs : List Int) (off fr : Nat) {cnt : Nat} (ys : List Int) (pre : List (BX cnt)) (x : BX cnt) : layL zs off fr ys (pre ++ [x]) = orB (layL zs off fr ys pre) (fr + x.i) (bitA zs (off + x.i)) := by
  unfold layL
  rw [List.foldl_append]
  rfl
/-- What the loop has made of the row. -/
structure LP (W0 : World) (g : Nat) (zs : List Int) (off fr : Nat) {cnt : Nat} (ys0 : List Int) (pre : List (BX cnt)) (W : World) : Prop where
  row : W.heap[g]? = some (.cells ((layL zs off fr ys0 pre).map (Value.int .u8)).toArray 5 (0, 0))
  keep : Kq [g] W0.heap.size W0 W
theorem LP.grown {W0 : World} {g : Nat} {zs : List Int} {off fr cnt : Nat} {ys0 : List Int} {pre : List (BX cnt)} {W W' : World} {row : Option Nat} (h : LP W0 g zs off fr ys0 pre W) (hg : W.grownBy W' row) (hr : ∀ r, row = some r → W0.heap.size ≤ r ∧ ∃ o : Obj, W.heap[r]? = some o ∧ o.isCells = false) : LP W0 g zs off fr ys0 pre W' := by
  have k := kq_of_grown hg hr
  exact ⟨k.cells h.row (by simp), h.keep.trans (k.more (by simp))⟩
noncomputable def lyRange : Code := (Tryd.f23.body.bind firstRange).getD .skip

set_option linter.unusedSimpArgs false in
set_option maxHeartbeats 4000000 in
set_option maxRecDepth 100000 in
theorem lay_loop {Q : Exit → Act → World → Prop} (c0 c1 c2 c5 c6 c7 c8 c10 c11 c12 c13 c14 c15 c16 c17 c18 c19 c20 c21 c22 c23 c24 c25 : Value) (W0 : World) (B0 B1 Bn Bf Br g R off fr cnt : Nat) (a : Option Addr) (len cap : Nat) (zs ys0 : List Int)
    (hB0 : W0.heap[B0]? = some (.cells #[.slice (some ⟨g, 0, none⟩) R R] 34 (0, 0))) (hB1 : W0.heap[B1]? = some (.cells #[.int .i64 (fr : Int)] 3 (0, 0)))
    (hcnt : off + cnt ≤ 8 * len) (hlen : len ≤ 1000000) (hfr : fr + cnt ≤ 8 * R) (hR : R ≤ 1000000) (hys : ys0.length = R) (ne0 : B0 ≠ g) (ne1 : B1 ≠ g) (ne2 : Bn ≠ g) (ne3 : Bf ≠ g) (ne4 : Br ≠ g) (ne5 : 0 < len → ∀ b o, a = some ⟨b, o, none⟩ → b ≠ g)
    (hI : BM Bn Bf Br off cnt a len cap zs W0) (h0 : W0.heap[g]? = some (.cells (ys0.map (Value.int .u8)).toArray 5 (0, 0)))
    (hdone : ∀ (D : Nat) (W : World), W0.heap.size ≤ D → LP W0 g zs off fr ys0 (bq cnt) W → W.heap[D]? = some (.deferred (some [])) → Q .normal { tmps := #[c0, c1, c2, .pointer (some ⟨B0, 0, none⟩), .pointer (some ⟨B1, 0, none⟩), c5, c6, c7, c8, .func (.func 38) #[] #[.pointer (some ⟨Bn, 0, none⟩), .pointer (some ⟨Bf, 0, none⟩), .pointer (some ⟨Br, 0, none⟩)], c10, c11, c12, c13, c14, c15, c16, c17, c18, c19, c20, c21, c22, c23, c24, c25], defers := [{ target := .collected D, args := #[] }] } W) :
    Code.wp Tryd.prog lyRange Q { tmps := #[c0, c1, c2, .pointer (some ⟨B0, 0, none⟩), .pointer (some ⟨B1, 0, none⟩), c5, c6, c7, c8, .func (.func 38) #[] #[.pointer (some ⟨Bn, 0, none⟩), .pointer (some ⟨Bf, 0, none⟩), .pointer (some ⟨Br, 0, none⟩)], c10, c11, c12, c13, c14, c15, c16, c17, c18, c19, c20, c21, c22, c23, c24, c25], defers := [] } W0 := by
  have lg := lt_of_heap h0
  refine (wpIn_wide (n := 10)).1 ?_
  conv => arg 4; whnf
  refine wpIn_rangeFunc_ownH rfl (by omega) (gf := 38) (lb := #[.pointer (some ⟨Bn, 0, none⟩), .pointer (some ⟨Bf, 0, none⟩), .pointer (some ⟨Br, 0, none⟩)]) rfl trivial (enters_of Tryd.func38 (by kernel_rfl) rfl)
    (encs := fun x : BX cnt => #[.int .i64 (x.i : Int), .int .u8 (bitA zs (off + x.i))]) (Kp := Kq [g] W0.heap.size) (S := fun ys : List (BX cnt) => ys = bq cnt) (Sp := fun pre : List (BX cnt) => pre <+: bq cnt) (N := cnt) (w0 := W0)
    (fun l J Jx W hW hJ _ hY h0' => (iter_m _ l Bn Bf Br W0.heap.size off cnt [g] a len cap zs hcnt hlen (by simpa using ne2) (by simpa using ne3) (by simpa using ne4) (fun hp b o e => by simpa using ne5 hp b o e) J Jx W hY (hI.next hW) h0' : CallsIn Fence.wide _ Tryd.prog 38 #[.func (.yield l) #[] #[], .pointer (some ⟨Bn, 0, none⟩), .pointer (some ⟨Bf, 0, none⟩), .pointer (some ⟨Br, 0, none⟩)] W fun e W' => (∃ v, e = .returned v) ∧ ((∃ ys, ys = bq cnt ∧ J ys W') ∨ (∃ pre, pre <+: bq cnt ∧ Jx pre W'))))
    (fun h k => h.trans k) (fun W l o o' hl ho hc _ => Kq.put W l o o' hl ho hc) (Below.refl _ _) (fun _ => rfl)
    (LP W0 g zs off fr ys0) (fun _ _ _ => False)
    (fun s A B row hs hg hr => hs.grown hg hr)
    (fun _ _ _ _ _ hs _ _ => hs)
    ⟨h0, Kq.of _ (Kp.refl _ _)⟩
    (fun x a' _ => a' = { tmps := #[c0, c1, c2, .pointer (some ⟨B0, 0, none⟩), .pointer (some ⟨B1, 0, none⟩), c5, .int .i64 (x.i : Int), .int .u8 (bitA zs (off + x.i)), c8, .func (.func 38) #[] #[.pointer (some ⟨Bn, 0, none⟩), .pointer (some ⟨Bf, 0, none⟩), .pointer (some ⟨Br, 0, none⟩)], .int .i64 (x.i : Int), .int .u8 (bitA zs (off + x.i)), c12, c13, c14, c15, c16, c17, c18, c19, c20, c21, c22, c23, c24, c25], defers := [] })
    (fun x a' _ A B row hs hg hr => hs)
    ?assign ?body ?done ?stop
  case assign =>
    rintro l pre x W K hI hK
    gi_wp2
    exact hK _ _ (KeepsFrom.refl _ _) (Kq.of _ (Kp.refl _ _)) hI rfl
  case body =>
    rintro l pre x a' W hl ⟨r, hr⟩ hP rfl hlt
    have hx := x.h
    have k1 : W.heap[B1]? = _ := hP.keep.cells hB1 (by simpa using ne1)
    have hc1 : W.cell? ⟨B1, 0, none⟩ = some (.int .i64 (fr : Int)) := by rw [cell_of_row W _ _ _ _ _ k1]; rfl
    have HB0 : Hid (W.heap[B0]? = some (.cells #[.slice (some ⟨g, 0, none⟩) R R] 34 (0, 0))) := hP.keep.cells hB0 (by simpa using ne0)
    obtain ⟨ys, hys0⟩ : ∃ ys, Hid (ys = layL zs off fr ys0 pre) := ⟨_, rfl⟩
    have hyl : ys.length = R := by rw [hys0.out, layL_len]; exact hys
    have HG : Hid (W.heap[g]? = some (.cells (ys.map (Value.int .u8)).toArray 5 (0, 0))) := by rw [hys0.out]; exact hP.row
    have HK : Hid (Kq [g] W0.heap.size W0 W) := hP.keep
    obtain ⟨k, hk⟩ : ∃ k, Hid (k = fr + x.i) := ⟨_, rfl⟩
    obtain ⟨y, hy⟩ : ∃ y, Hid (y = bitA zs (off + x.i)) := ⟨_, rfl⟩
    obtain ⟨q, hq⟩ : ∃ q, Hid (q = ys.getD (k / 8) 0) := ⟨_, rfl⟩
    obtain ⟨sh, hsh⟩ : ∃ sh, Hid (sh = IntKind.u8.wrap (y * 2 ^ (k % 8))) := ⟨_, rfl⟩
    have CG : Hid (∀ z : World, z.heap[g]? = some (.cells (ys.map (Value.int .u8)).toArray 5 (0, 0)) → z.cell? ⟨g, k / 8, none⟩ = some (.int .u8 q)) := fun z hz => by
      rw [cell_of_row z _ _ _ _ _ hz, hq.out]
      simp [List.getD_eq_getElem?_getD, show k / 8 < ys.length from by have := hk.out; omega]
    obtain ⟨rr, hrr⟩ : ∃ rr, Hid (rr = bits .or .u8 q sh) := ⟨_, rfl⟩
    have wk : IntKind.i64.wrap ((fr : Int) + (x.i : Int)) = ((fr + x.i : Nat) : Int) := by rw [IntKind.wrap_i64]; omega
    rw [← hy.out]
    clear k1 hP
    gi_wp2_with fail
    have ek : (fr : Int) + (x.i : Int) = (k : Int) := by have := hk.out; omega
    rw [ek]
    have hk8 : k < 8 * R := by have := hk.out; omega
    clear ek wk hc1
    refine region_round (S := fun z => z.heap[B0]? = some (.cells #[.slice (some ⟨g, 0, none⟩) R R] 34 (0, 0)) ∧ Kp [g] W z) ?hL (by kernel_rfl) (by kernel_rfl) ⟨HB0.out, (Kp.refl _ _).drew⟩ (fun hHeld => ?_)
    case hL => exact fun _ _ h => h
    refine tk 0 (.slice (some ⟨g, 0, none⟩) R R) rfl (.inl ⟨by rfl, ?_⟩) ?_
    · intro w9 hSw
      try dsimp only at hSw
      have c0 : w9.cell? ⟨B0, 0, none⟩ = some (.slice (some ⟨g, 0, none⟩) R R) := by rw [cell_of_row _ _ 0 _ _ _ hSw.1]; rfl
      go_simp
      all_goals try assumption
    try simp only [Act.put, gA, gS, gZ, sA, sZ, sS]
    refine tk 1 (.int .i64 (k : Int)) rfl (.inl ⟨by rfl, ?_⟩) ?_
    · intro w9 hSw
      try dsimp only at hSw
      go_simp
      all_goals try decide
      all_goals try assumption
      all_goals try omega
    try simp only [Act.put, gA, gS, gZ, sA, sZ, sS]
    refine tk 2 (.int .i64 ((k : Int) / 8)) rfl (.inl ⟨by rfl, ?_⟩) ?_
    · intro w9 hSw
      try dsimp only at hSw
      have e8 : (k : Int).tdiv 8 = (k : Int) / 8 := Int.tdiv_eq_ediv_of_nonneg (by omega)
      have e9 : IntKind.i64.wrap ((k : Int) / 8) = (k : Int) / 8 := by rw [IntKind.wrap_i64]; omega
      go_simp
      all_goals try omega
    try simp only [Act.put, gA, gS, gZ, sA, sZ, sS]
    refine tk 3 (.pointer (some ⟨g, k / 8, none⟩)) rfl (.inl ⟨by rfl, ?_⟩) ?_
    · intro w9 hSw
      try dsimp only at hSw
      have q1 : (k : Int) / 8 < (R : Int) := by omega
      have q0 : (0 : Int) ≤ (k : Int) / 8 := by omega
      have q2 : ((k : Int) / 8).toNat = k / 8 := by omega
      go_simp
      all_goals try omega
    try simp only [Act.put, gA, gS, gZ, sA, sZ, sS]
    refine tk 5 (.int .u8 y) rfl (.inl ⟨by rfl, ?_⟩) ?_
    · intro w9 hSw
      try dsimp only at hSw
      go_simp
      all_goals try decide
      all_goals try assumption
      all_goals try omega
    try simp only [Act.put, gA, gS, gZ, sA, sZ, sS]
    refine tk 6 (.int .i64 (k : Int)) rfl (.inl ⟨by rfl, ?_⟩) ?_
    · intro w9 hSw
      try dsimp only at hSw
      go_simp
      all_goals try decide
      all_goals try assumption
      all_goals try omega
    try simp only [Act.put, gA, gS, gZ, sA, sZ, sS]
    refine tk 7 (.int .i64 ((k : Int) % 8)) rfl (.inl ⟨by rfl, ?_⟩) ?_
    · intro w9 hSw
      try dsimp only at hSw
      go_simp
      all_goals exact Int.tmod_eq_emod_of_nonneg (by omega)
    try simp only [Act.put, gA, gS, gZ, sA, sZ, sS]
    refine tk 8 (.int .u8 sh) rfl (.inl ⟨by rfl, ?_⟩) ?_
    · intro w9 hSw
      try dsimp only at hSw
      have s1 : (0 : Int) ≤ (k : Int) % 8 := by omega
      have s2 : ((k : Int) % 8).toNat = k % 8 := by omega
      have s3 : ¬ ((k : Int) % 8 < 0) := by omega
      go_simp
      all_goals exact hsh.out.symm
    try simp only [Act.put, gA, gS, gZ, sA, sZ, sS]
    refine wpAnyH_ready (rs := [4]) (by kernel_rfl) (by simp) ?_
    refine AllReadyH.cons rfl (fun K' hK => ?_) AllReadyH.nil
    rw [if_pos (by rfl)]
    simp only [gA, gS, gZ]
    have c0 := CG.out W.drew HG.out
    go_wp2_with fail
    refine hK.out _ _ (hHeld) (fun hHeld => ?_)
    clear hK K'
    try simp only [Act.put, gA, gS, gZ, sA, sZ, sS]
    refine tk 9 (.int .u8 rr) rfl (.inl ⟨by rfl, ?_⟩) ?_
    · intro w9 hSw
      try dsimp only at hSw
      have er : bits .or .u8 q sh = rr := hrr.out.symm
      go_simp
      all_goals try assumption
    try simp only [Act.put, gA, gS, gZ, sA, sZ, sS]
    refine tk 10 (.pointer (some ⟨g, k / 8, none⟩)) rfl (.inl ⟨by rfl, ?_⟩) ?_
    · intro w9 hSw
      try dsimp only at hSw
      have q1 : (k : Int) / 8 < (R : Int) := by omega
      have q0 : (0 : Int) ≤ (k : Int) / 8 := by omega
      have q2 : ((k : Int) / 8).toNat = k / 8 := by omega
      go_simp
      all_goals try omega
    try simp only [Act.put, gA, gS, gZ, sA, sZ, sS]
    refine wpAnyH_ready (rs := [11]) (by kernel_rfl) (by simp) ?_
    refine AllReadyH.cons rfl (fun K' hK => ?_) AllReadyH.nil
    rw [if_pos (by rfl)]
    simp only [gA, gS, gZ]
    have c0 := CG.out W.drew HG.out
    have f0 : W.drew.frozen? ⟨g, k / 8, none⟩ = false := frozen_of_row _ _ _ _ _ HG.out
    go_wp2_with fail
    refine hK.out _ _ (⟨(heap_setCell_other _ _ _ _ (by simpa using ne0)).trans hHeld.1, hHeld.2.set _ _ (.inl (by simp))⟩) (fun hHeld => ?_)
    clear hK K'
    try simp only [Act.put, gA, gS, gZ, sA, sZ, sS]
    refine wpAnyH_done (by kernel_rfl) ?_ _
    have K3 : Kp [g] W (W.setCell ⟨g, k / 8, none⟩ (.int .u8 rr)).drew := ((Kp.refl _ W).set _ _ (.inl (by simp))).drew
    refine ⟨keeps_of_kp K3 (by simp; omega), Kq.of _ K3, ⟨?_, HK.out.trans (Kq.of _ K3)⟩⟩
    show (W.setCell ⟨g, k / 8, none⟩ (.int .u8 rr)).heap[g]? = _
    rw [heap_setCell_same W g (k / 8) _ _ _ HG.out, layL_app, ← hys0.out, ← hy.out, ← hk.out]
    unfold orB
    rw [← hq.out, ← hsh.out, ← hrr.out]
    simp [List.map_set]
  case done =>
    rintro D ys W hD rfl h2 h3
    exact hdone D W hD h2 h3
  case stop =>
    rintro D c pre W _ _ h _
    exact h.elim
#print axioms lay_loop
end Go.Proofs.YtcdmldnaagiicaaDoor
