/-
  The loop of lookAt.
-/
import Derived.Test.YtgpbmccjcjoijaaJ7
import Derived.Test.YtgpbmccjcjoijaaJj
namespace Go.Proofs.Ytgpbmccjcjoijaa
open Go.RowKit Go.Shelf
attribute [local go_sem] Oper.semAt_some

theorem roomR_le {W0 : World} {bl : Nat} (pre : List (RX W0 bl)) : roomR (pre.map (·.r)) ≤ 4112 * pre.length := by
  induction pre with
  | nil => simp [roomR]
  | cons x l ih =>
    have h1 := rm_lt x.r.bs.length
    have h2 := x.ok.len
    simp [roomR] at ih ⊢
    omega
theorem kq_of_grown {N : Nat} {A B : World} {row : Option Nat} (hg : A.grownBy B row) (hr : ∀ r, row = some r → N ≤ r ∧ ∃ o : Obj, A.heap[r]? = some o ∧ o.isCells = false) : Kq [] N A B :=
  ⟨hg.os, hg.tape, hg.output, hg.size, fun k o hk _ hc => by
    rw [hg.block k (lt_of_heap hk) (fun e => by
      obtain ⟨h1, o', h2, h3⟩ := hr k e.symm
      rw [hk] at h2
      obtain rfl := Option.some.inj h2
      rcases hc with hc | hc
      · omega
      · rw [h3] at hc; cases hc)]
    exact hk⟩
theorem Kq.more {S S' : List Nat} {N : Nat} {a b : World} (h : Kq S N a b) (hs : ∀ k ∈ S, k ∈ S') : Kq S' N a b := ⟨h.os, h.tape, h.output, h.size, fun i o hi hn hc => h.block i o hi (fun hm => hn (hs i hm)) hc⟩
theorem Kq.cells {S : List Nat} {N : Nat} {a b : World} (h : Kq S N a b) {k : Nat} {C : Array Value} {t : TypeId} {f : Nat × Nat} (hk : a.heap[k]? = some (.cells C t f)) (hs : k ∉ S) : b.heap[k]? = some (.cells C t f) := h.block k _ hk hs (.inr rfl)
theorem block_of_cell {w : World} {b o : Nat} {v : Value} (h : w.cell? ⟨b, o, none⟩ = some v) : ∃ C t f, w.heap[b]? = some (.cells C t f) := by
  unfold World.cell? at h
  split at h
  · rename_i C t f hc; exact ⟨C, t, f, hc⟩
  · cases h
theorem Row.kq {w w' : World} {a : Option Addr} {n N : Nat} {zs : List Int} {S : List Nat} (h : Row w a n zs) (k : Kq S N w w') (hn : 0 < n → ∀ b off, a = some ⟨b, off, none⟩ → b ∉ S) : Row w' a n zs where
  size := h.size
  oct := h.oct
  at_ := fun hp => by
    obtain ⟨b, off, e, hc⟩ := h.at_ hp
    refine ⟨b, off, e, fun i hi => ?_⟩
    obtain ⟨C, t, f, hb⟩ := block_of_cell (hc i hi)
    rw [World.cell?_of_block (w := w) ((k.cells hb (hn hp b off e)).trans hb.symm)]
    exact hc i hi
theorem IsG.kq {w w' : World} {S S' : List Nat} {N : Nat} {all : List Gp} {ss : List SL} (h : IsG w S all ss) (k : Kq S' N w w') (hs : ∀ x ∈ S', x ∈ S) : IsG w' S all ss where
  n1 := h.n1
  n2 := h.n2
  row := fun i g s h1 h2 => by
    obtain ⟨r, l, b⟩ := h.row i g s h1 h2
    exact ⟨r.kq k (fun hp bl off e hm => b hp bl off e (hs _ hm)), l, b⟩
theorem keeps_of_kp {S : List Nat} {N : Nat} {W W' : World} (h : Kp S W W') (hS : ∀ s ∈ S, s < N) : KeepsFrom N W W' := ⟨h.size, fun k o hN hk _ => by rw [h.block k (lt_of_heap hk) (fun hm => by have := hS k hm; omega)]; exact hk⟩
/-- What the loop has made of the half and the groups. -/
structure LI (W0 : World) (hB fB : Nat) (S : List Nat) (p first k : Nat) (bg : Bool) (num : Int) (en : Nat) (gs : List Gp) (W : World) : Prop where
  half : W.heap[hB]? = some (.cells #[.pointer (some ⟨p, 0, none⟩), .int .i64 (first : Int), .int .i64 (k : Int), .bool bg, .int .u8 num, .int .i64 (en : Int)] 64 (0, 0))
  grp : ∃ ss, GB W fB gs ss ∧ IsG W (hB :: fB :: S) gs ss
  keep : Kq [hB, fB] W0.heap.size W0 W
theorem LI.kq {W0 : World} {hB fB : Nat} {S : List Nat} {p first k : Nat} {bg : Bool} {num : Int} {en : Nat} {gs : List Gp} {W W' : World} (h : LI W0 hB fB S p first k bg num en gs W) (hk : Kq [] W0.heap.size W W') : LI W0 hB fB S p first k bg num en gs W' := by
  obtain ⟨ss, h1, h2⟩ := h.grp
  exact ⟨hk.cells h.half (by simp), ⟨ss, hk.cells h1 (by simp), h2.kq hk (by simp)⟩, h.keep.trans (hk.more (by simp))⟩
/-- Between two rounds. -/
def LPre (W0 : World) (bl hB fB : Nat) (S : List Nat) (p first k : Nat) (pre : List (RX W0 bl)) (W : World) : Prop :=
  LI W0 hB fB S p first k (!pre.isEmpty) (numR (pre.map (·.r))) (roomR (pre.map (·.r))) (takes all0 (pre.map (·.r))) W ∧ (pre ≠ [] → begunR (pre.map (·.r)) = true)
/-- A round has left. -/
def LOut (W0 : World) (bl hB fB : Nat) (S : List Nat) (p first k : Nat) (c : Code) (pre : List (RX W0 bl)) (W : World) : Prop :=
  c = .exit 0 ∧ (pre ≠ [] ∧ begunR (pre.map (·.r)) = false) ∧ LI W0 hB fB S p first k false 0 0 all0 W
def firstRange : Code → Option Code
  | .rangeFunc g ps a c => some (.rangeFunc g ps a c)
  | .seq a b => match firstRange a with
    | some c => some c
    | none => firstRange b
  | .block _ c => firstRange c
  | .scope c => firstRange c
  | .loop c => firstRange c
  | .cond _ a b => match firstRange a with
    | some c => some c
    | none => firstRange b
  | _ => none
noncomputable def lkRange : Code := (Try.f33.body.bind firstRange).getD .skip

set_option linter.unusedSimpArgs false in
set_option maxHeartbeats 4000000 in
set_option maxRecDepth 100000 in
theorem lk_loop {Q : Exit → Act → World → Prop} (c0 c1 c2 c3 c4 c5 c6 c9 c10 c11 c12 c13 c14 c15 c16 c17 c18 c19 c20 c21 c22 c23 c25 c26 c27 c28 c29 c30 c31 c32 c33 c34 c35 c36 c37 c38 c39 c40 c41 c42 c43 c44 c45 c46 c47 c48 c49 c50 c51 c52 c53 c54 c55 c56 c57 c58 c59 c60 c61 c62 c63 c64 : Value) (W0 : World) (p first k bl len cap Bn hB fB : Nat) (S : List Nat) (b : List Int)
    (hro : Row W0 (some ⟨bl, 0, none⟩) len b) (hl : len ≤ 1000000) (hcap : len ≤ cap) (hb1 : bl ≠ hB) (hb2 : bl ≠ fB) (hbN : bl < W0.heap.size) (hn1 : Bn ≠ hB) (hn2 : Bn ≠ fB) (hhf : hB ≠ fB)
    (hBW : W0.heap[Bn]? = some (.cells #[.slice (some ⟨bl, 0, none⟩) len cap] 33 (0, 0)))
    (hS : ∀ x ∈ S, x < W0.heap.size)
    (h0 : LI W0 hB fB S p first k false 0 0 all0 W0)
    (hdone : ∀ (D : Nat) (ys : List (RX W0 bl)) (W : World), W0.heap.size ≤ D → ys.map (·.r) = recs b → LPre W0 bl hB fB S p first k ys W → W.heap[D]? = some (.deferred (some [])) → Q .normal { tmps := #[c0, c1, c2, c3, c4, c5, c6, .pointer (some ⟨hB, 0, none⟩), .pointer (some ⟨fB, 0, none⟩), c9, c10, c11, c12, c13, c14, c15, c16, c17, c18, c19, c20, c21, c22, c23, .func (.func 62) #[] #[.pointer (some ⟨Bn, 0, none⟩)], c25, c26, c27, c28, c29, c30, c31, c32, c33, c34, c35, c36, c37, c38, c39, c40, c41, c42, c43, c44, c45, c46, c47, c48, c49, c50, c51, c52, c53, c54, c55, c56, c57, c58, c59, c60, c61, c62, c63, c64], defers := [{ target := .collected D, args := #[] }] } W)
    (hstop : ∀ (D : Nat) (pre : List (RX W0 bl)) (W : World), W0.heap.size ≤ D → pre.map (·.r) <+: recs b → LOut W0 bl hB fB S p first k (.exit 0) pre W → W.heap[D]? = some (.deferred (some [])) → Q (.exit 0) { tmps := #[c0, c1, c2, c3, c4, c5, c6, .pointer (some ⟨hB, 0, none⟩), .pointer (some ⟨fB, 0, none⟩), c9, c10, c11, c12, c13, c14, c15, c16, c17, c18, c19, c20, c21, c22, c23, .func (.func 62) #[] #[.pointer (some ⟨Bn, 0, none⟩)], c25, c26, c27, c28, c29, c30, c31, c32, c33, c34, c35, c36, c37, c38, c39, c40, c41, c42, c43, c44, c45, c46, c47, c48, c49, c50, c51, c52, c53, c54, c55, c56, c57, c58, c59, c60, c61, c62, c63, c64], defers := [{ target := .collected D, args := #[] }] } W) :
    Code.wp Try.prog lkRange Q ⟨#[c0, c1, c2, c3, c4, c5, c6, .pointer (some ⟨hB, 0, none⟩), .pointer (some ⟨fB, 0, none⟩), c9, c10, c11, c12, c13, c14, c15, c16, c17, c18, c19, c20, c21, c22, c23, .func (.func 62) #[] #[.pointer (some ⟨Bn, 0, none⟩)], c25, c26, c27, c28, c29, c30, c31, c32, c33, c34, c35, c36, c37, c38, c39, c40, c41, c42, c43, c44, c45, c46, c47, c48, c49, c50, c51, c52, c53, c54, c55, c56, c57, c58, c59, c60, c61, c62, c63, c64], []⟩ W0 := by
  have hBl : hB < W0.heap.size := lt_of_heap h0.half
  have hfl : fB < W0.heap.size := by obtain ⟨ss, h1, _⟩ := h0.grp; exact lt_of_heap h1
  have hBnN : Bn < W0.heap.size := lt_of_heap hBW
  refine (wpIn_wide (n := 10)).1 ?_
  have hrg : lkRange = lkRange := rfl
  conv => arg 4; whnf
  refine wpIn_rangeFunc_ownH rfl (by omega) (gf := 62) (lb := #[.pointer (some ⟨Bn, 0, none⟩)]) rfl trivial (enters_of Try.func62 (by kernel_rfl) rfl)
    (encs := fun x : RX W0 bl => x.enc) (Kp := Kq [hB, fB] W0.heap.size) (S := fun ys : List (RX W0 bl) => ys.map (fun x => x.r) = recs b) (Sp := fun pre : List (RX W0 bl) => pre.map (fun x : RX W0 bl => x.r) <+: recs b) (N := 1000000) (w0 := W0)
    (fun l J Jx W hW hJ _ hY h0' => (iter_in _ l Bn W0.heap.size bl 0 len cap [hB, fB] b W0 hro hl hcap (by simp [hb1, hb2]) hbN (by simp [hn1, hn2]) hBnN J Jx W hJ hY ((hW.block Bn hBnN).trans hBW) (hW.block bl hbN) (fun s hs => by have := hW.size; simp at hs; omega) h0' : CallsIn Fence.wide _ Try.prog 62 #[.func (.yield l) #[] #[], .pointer (some ⟨Bn, 0, none⟩)] W fun e W' => (∃ v, e = .returned v) ∧ ((∃ ys, ys.map (fun x => x.r) = recs b ∧ J ys W') ∨ (∃ pre, pre.map (fun x => x.r) <+: recs b ∧ Jx pre W'))))
    (fun h k => h.trans k) (fun W l o o' hl ho hc _ => Kq.put W l o o' hl ho hc) (Below.refl _ _) (fun _ => rfl)
    (LPre W0 bl hB fB S p first k) (LOut W0 bl hB fB S p first k)
    (fun s A B row hs hg hr => ⟨hs.1.kq (kq_of_grown hg hr), hs.2⟩)
    (fun c s A B row hs hg hr => ⟨hs.1, hs.2.1, hs.2.2.kq (kq_of_grown hg hr)⟩)
    ⟨h0, fun h => absurd rfl h⟩
    (fun x a' W => ∃ Bx, W0.heap.size ≤ Bx ∧ W.heap[Bx]? = some (.cells #[.int .u8 x.r.kind, .int .u8 x.r.grp, .slice (some ⟨bl, x.off, none⟩) x.r.bs.length x.cap] 79 (0, 0)) ∧ a' = { tmps := #[c0, c1, c2, c3, c4, c5, c6, .pointer (some ⟨hB, 0, none⟩), .pointer (some ⟨fB, 0, none⟩), .pointer (some ⟨Bx, 0, none⟩), c10, c11, c12, c13, c14, c15, c16, c17, c18, c19, c20, c21, c22, c23, .func (.func 62) #[] #[.pointer (some ⟨Bn, 0, none⟩)], .agg #[.int .u8 x.r.kind, .int .u8 x.r.grp, .slice (some ⟨bl, x.off, none⟩) x.r.bs.length x.cap], c26, c27, c28, c29, c30, c31, c32, c33, c34, c35, c36, c37, c38, c39, c40, c41, c42, c43, c44, c45, c46, c47, c48, c49, c50, c51, c52, c53, c54, c55, c56, c57, c58, c59, c60, c61, c62, c63, c64], defers := [] })
    (fun x a' _ A B row hs hg hr => by
      obtain ⟨Bx, h1, h2, h3⟩ := hs
      exact ⟨Bx, h1, (kq_of_grown hg hr).cells h2 (by simp), h3⟩)
    ?assign ?body ?done ?stop
  case assign =>
    rintro l pre x W K hI hK
    gi_wp2
    have KA : Kp [] W (W.alloc (.cells #[.int .u8 x.r.kind, .int .u8 x.r.grp, .slice (some ⟨bl, x.off, none⟩) x.r.bs.length x.cap] 79)) := (Kp.refl [] W).al _
    exact hK _ _ (keeps_of_kp KA (by simp)) ((Kq.of _ KA).more (by simp)) ⟨hI.1.kq (Kq.of _ KA), hI.2⟩ ⟨W.heap.size, hI.1.keep.size, heap_alloc_new W _, rfl⟩
  case body =>
    rintro l pre x a' W hl ⟨r, hr⟩ hI ⟨Bx, hBx, bX, rfl⟩ hlt
    obtain ⟨hLI, hbg⟩ := hI
    have hKQ := hLI.keep
    have hrow : Row W (some ⟨bl, x.off, none⟩) x.r.bs.length x.r.bs := x.row.moved (by
      obtain ⟨o, ho⟩ : ∃ o, W0.heap[bl]? = some o := ⟨_, Array.getElem?_eq_getElem hbN⟩
      rw [hKQ.block bl o ho (by simp [hb1, hb2]) (.inl hbN), ho])
    have v0 : W.cell? ⟨Bx, 0, none⟩ = some (.int .u8 x.r.kind) := by rw [cell_of_row W _ _ _ _ _ bX]; rfl
    have v1 : W.cell? ⟨Bx, 1, none⟩ = some (.int .u8 x.r.grp) := by rw [cell_of_row W _ _ _ _ _ bX]; rfl
    have v2 : W.cell? ⟨Bx, 2, none⟩ = some (.slice (some ⟨bl, x.off, none⟩) x.r.bs.length x.cap) := by rw [cell_of_row W _ _ _ _ _ bX]; rfl
    have nBh : Bx ≠ hB := by omega
    have nBf : Bx ≠ fB := by omega
    have e1 : (pre ++ [x]).map (·.r) = pre.map (·.r) ++ [x.r] := by simp
    have hRM : roomR (pre.map (·.r)) ≤ 4112000000 := by have := roomR_le pre; omega
    cases pre with
    | cons y q =>
      have hbt := hbg (by simp)
      have HE : Hid (∀ W3, LI W0 hB fB S p first k true (numR ((y :: q).map (·.r))) (roomR ((y :: q).map (·.r)) + rm x.r.bs.length) (take1 (takes all0 ((y :: q).map (·.r))) x.r) W3 → LPre W0 bl hB fB S p first k ((y :: q) ++ [x]) W3) := fun W3 h3 => by
        refine ⟨?_, fun _ => ?_⟩
        · rw [e1, takes_snoc]
          have e2 : roomR (List.map (fun x => x.r) (y :: q) ++ [x.r]) = roomR ((y :: q).map (·.r)) + rm x.r.bs.length := by simp [roomR]; omega
          rw [e2]
          exact h3
        · rw [e1]; exact hbt
      have hLI2 : LI W0 hB fB S p first k true (numR ((y :: q).map (·.r))) (roomR ((y :: q).map (·.r))) (takes all0 ((y :: q).map (·.r))) W := hLI
      generalize numR ((y :: q).map (·.r)) = num at *
      generalize roomR ((y :: q).map (·.r)) = en at *
      generalize takes all0 ((y :: q).map (·.r)) = gs at *
      clear hLI e1 hbg hbt
      have hhalf := hLI2.half
      obtain ⟨ss, hGB, hIG⟩ := hLI2.grp
      have h3 : W.cell? ⟨hB, 3, none⟩ = some (.bool true) := by rw [cell_of_row W _ _ _ _ _ hhalf]; rfl
      have TK := take_any hGB hIG (by simp) (fun s hs => by
        have hz := hKQ.size
        rcases List.mem_cons.1 hs with rfl | hs
        · omega
        rcases List.mem_cons.1 hs with rfl | hs
        · omega
        have := hS s hs
        omega) x.r x.ok (some ⟨bl, x.off, none⟩) x.r.bs.length x.cap hrow
      have HKQ : Hid (Kq [hB, fB] W0.heap.size W0 W) := hKQ
      have HHF : Hid (W.heap[hB]? = some (.cells #[.pointer (some ⟨p, 0, none⟩), .int .i64 (first : Int), .int .i64 (k : Int), .bool true, .int .u8 num, .int .i64 (en : Int)] 64 (0, 0))) := hhalf
      have RM := room_any x.r.bs.length (by have := x.ok.len; omega)
      have r1 := rm_lt x.r.bs.length
      have r2 := x.ok.len
      have h5 : W.cell? ⟨hB, 5, none⟩ = some (.int .i64 (en : Int)) := by rw [cell_of_row W _ _ _ _ _ hhalf]; rfl
      have NXL : Hid (x.r.bs.length ≤ 4096) := r2
      generalize x.r.bs.length = nn at *
      generalize rm nn = rr at *
      have gE : (en : Int) + rr ≤ 5000000000 := by omega
      have gW : IntKind.i64.wrap ((en : Int) + rr) = (en : Int) + rr := by rw [IntKind.wrap_i64]; omega
      clear hhalf hGB hIG hKQ
      gi_wp2_with fail
      refine ⟨trivial, ?_⟩
      with_reducible refine (CallsIn.inRound l (callsIn_wide.2 TK)).mono ?_
      rintro e V ⟨rfl, ⟨ss2, hG2, hI2⟩, hK2⟩
      clear TK
      have t5 := hK2.cell h5 (by simpa using hhf)
      have t2 := hK2.cell v2 (by simpa using nBf)
      have H2 : Hid (V.heap[hB]? = _) := (hK2.block hB (lt_of_heap HHF.out) (by simpa using hhf)).trans HHF.out
      have f5 := frozen_of_row V hB 5 _ _ H2.out
      have ST : V.drew.setCell ⟨hB, 5, none⟩ (.int .i64 ((en : Int) + rr)) = V.drew.setCell ⟨hB, 5, none⟩ (.int .i64 ((en : Int) + rr)) := rfl
      have K3 : Kp [hB, fB] W (V.drew.setCell ⟨hB, 5, none⟩ (.int .i64 ((en : Int) + rr))) := ((hK2.more (by simp)).drew).set _ _ (.inl (by simp))
      have K3' : Kp [hB] V (V.drew.setCell ⟨hB, 5, none⟩ (.int .i64 ((en : Int) + rr))) := ((Kp.refl _ _).drew).set _ _ (.inl (by simp))
      have FIN : Hid (LI W0 hB fB S p first k true num (en + rr) (take1 gs x.r) (V.drew.setCell ⟨hB, 5, none⟩ (.int .i64 ((en : Int) + rr)))) := by
        refine ⟨?_, ⟨ss2, (K3'.block fB (lt_of_heap hG2) (by simpa using Ne.symm hhf)).trans hG2, hI2.kp K3' (by simp)⟩, HKQ.out.trans (Kq.of _ K3)⟩
        have e9 := heap_setCell_same V.drew hB 5 _ _ (.int .i64 ((en : Int) + rr)) H2.out
        rw [e9]
        have e8 : ((en + rr : Nat) : Int) = (en : Int) + rr := by omega
        rw [e8]
        rfl
      have SS2 : (V.drew.setCell ⟨hB, 5, none⟩ (.int .i64 ((en : Int) + rr))).cell? ⟨Bx, 2, none⟩ = some (.slice (some ⟨bl, x.off, none⟩) nn x.cap) := K3'.cell t2 (by simpa using nBh)
      have KF : Hid (KeepsFrom W0.heap.size W (V.drew.setCell ⟨hB, 5, none⟩ (.int .i64 ((en : Int) + rr))) ∧ Kq [hB, fB] W0.heap.size W (V.drew.setCell ⟨hB, 5, none⟩ (.int .i64 ((en : Int) + rr)))) := ⟨keeps_of_kp K3 (by simp; omega), Kq.of _ K3⟩
      clear hG2 hI2
      gi_wp2
      refine region_round (S := fun z => z.cell? ⟨Bx, 2, none⟩ = some (.slice (some ⟨bl, x.off, none⟩) nn x.cap)) (fun _ _ h => h) (by kernel_rfl) (by kernel_rfl) (t2) (fun hHeld => ?_)
      refine wpAnyH_take (i := 0) (v := (.pointer (some ⟨hB, 5, none⟩))) rfl (by kernel_rfl) (by kernel_rfl) (by kernel_rfl) (fun _ _ _ h => h) (Or.inl ⟨by rfl, ?_⟩) (by assumption) ?_
      · intro w9 hSw
        try dsimp only at hSw
        go_simp
        all_goals try decide
        all_goals try assumption
        all_goals try omega
      try simp only [Act.put, List.getElem_toArray, List.getElem_cons_succ, List.getElem_cons_zero, List.setIfInBounds_toArray, List.set_cons_zero, List.set_cons_succ]
      refine wpAnyH_take (i := 2) (v := (.pointer (some ⟨Bx, 2, none⟩))) rfl (by kernel_rfl) (by kernel_rfl) (by kernel_rfl) (fun _ _ _ h => h) (Or.inl ⟨by rfl, ?_⟩) (by assumption) ?_
      · intro w9 hSw
        try dsimp only at hSw
        go_simp
        all_goals try decide
        all_goals try assumption
        all_goals try omega
      try simp only [Act.put, List.getElem_toArray, List.getElem_cons_succ, List.getElem_cons_zero, List.setIfInBounds_toArray, List.set_cons_zero, List.set_cons_succ]
      refine wpAnyH_take (i := 3) (v := (.slice (some ⟨bl, x.off, none⟩) nn x.cap)) rfl (by kernel_rfl) (by kernel_rfl) (by kernel_rfl) (fun _ _ _ h => h) (Or.inl ⟨by rfl, ?_⟩) (by assumption) ?_
      · intro w9 hSw
        try dsimp only at hSw
        go_simp
        all_goals try decide
        all_goals try assumption
        all_goals try omega
      try simp only [Act.put, List.getElem_toArray, List.getElem_cons_succ, List.getElem_cons_zero, List.setIfInBounds_toArray, List.set_cons_zero, List.set_cons_succ]
      refine wpAnyH_take (i := 4) (v := (.int .i64 (nn : Int))) rfl (by kernel_rfl) (by kernel_rfl) (by kernel_rfl) (fun _ _ _ h => h) (Or.inl ⟨by rfl, ?_⟩) (by assumption) ?_
      · intro w9 hSw
        try dsimp only at hSw
        go_simp
        all_goals try decide
        all_goals try assumption
        all_goals try omega
      try simp only [Act.put, List.getElem_toArray, List.getElem_cons_succ, List.getElem_cons_zero, List.setIfInBounds_toArray, List.set_cons_zero, List.set_cons_succ]
      refine wpAnyH_ready (rs := [1, 5]) (by kernel_rfl) (by simp) ?_
      refine AllReadyH.cons rfl (fun K' hK => ?_) (AllReadyH.cons rfl (fun K' hK => ?_) AllReadyH.nil)
      · rw [if_pos (by rfl)]
        simp only [List.getElem_toArray, List.getElem_cons_succ, List.getElem_cons_zero]
        go_wp2_with fail
        refine hK.out _ _ (t2) (fun hHeld => ?_)
        clear hK K'
        try simp only [Act.put, List.getElem_toArray, List.getElem_cons_succ, List.getElem_cons_zero, List.setIfInBounds_toArray, List.set_cons_zero, List.set_cons_succ]
        refine wpAnyH_ready (rs := [5]) (by kernel_rfl) (by simp) ?_
        refine AllReadyH.cons rfl (fun K' hK => ?_) AllReadyH.nil
        rw [if_pos (by rfl)]
        simp only [List.getElem_toArray, List.getElem_cons_succ, List.getElem_cons_zero]
        go_wp2_with fail
        refine (RM _).mono ?_
        rintro e V1 ⟨rfl, rfl⟩
        try go_wp2_with fail
        refine hK.out _ _ (t2) (fun hHeld => ?_)
        clear hK K'
        try simp only [Act.put, List.getElem_toArray, List.getElem_cons_succ, List.getElem_cons_zero, List.setIfInBounds_toArray, List.set_cons_zero, List.set_cons_succ]
        refine wpAnyH_take (i := 6) (v := (.int .i64 ((en : Int) + rr))) rfl (by kernel_rfl) (by kernel_rfl) (by kernel_rfl) (fun _ _ _ h => h) (Or.inl ⟨by rfl, ?_⟩) (by assumption) ?_
        · intro w9 hSw
          try dsimp only at hSw
          go_simp
          all_goals try decide
          all_goals try assumption
          all_goals try omega
        try simp only [Act.put, List.getElem_toArray, List.getElem_cons_succ, List.getElem_cons_zero, List.setIfInBounds_toArray, List.set_cons_zero, List.set_cons_succ]
        refine wpAnyH_take (i := 7) (v := (.pointer (some ⟨hB, 5, none⟩))) rfl (by kernel_rfl) (by kernel_rfl) (by kernel_rfl) (fun _ _ _ h => h) (Or.inl ⟨by rfl, ?_⟩) (by assumption) ?_
        · intro w9 hSw
          try dsimp only at hSw
          go_simp
          all_goals try decide
          all_goals try assumption
          all_goals try omega
        try simp only [Act.put, List.getElem_toArray, List.getElem_cons_succ, List.getElem_cons_zero, List.setIfInBounds_toArray, List.set_cons_zero, List.set_cons_succ]
        refine wpAnyH_ready (rs := [8]) (by kernel_rfl) (by simp) ?_
        refine AllReadyH.cons rfl (fun K' hK => ?_) AllReadyH.nil
        rw [if_pos (by rfl)]
        simp only [List.getElem_toArray, List.getElem_cons_succ, List.getElem_cons_zero]
        go_wp2_with fail
        refine hK.out _ _ (SS2) (fun hHeld => ?_)
        clear hK K'
        try simp only [Act.put, List.getElem_toArray, List.getElem_cons_succ, List.getElem_cons_zero, List.setIfInBounds_toArray, List.set_cons_zero, List.set_cons_succ]
        refine wpAnyH_done (by kernel_rfl) ?_ _
        gi_wp2
        exact ⟨KF.out.1, KF.out.2, HE.out _ FIN.out⟩
      · rw [if_pos (by rfl)]
        simp only [List.getElem_toArray, List.getElem_cons_succ, List.getElem_cons_zero]
        go_wp2_with fail
        refine (RM _).mono ?_
        rintro e V1 ⟨rfl, rfl⟩
        try go_wp2_with fail
        refine hK.out _ _ (t2) (fun hHeld => ?_)
        clear hK K'
        try simp only [Act.put, List.getElem_toArray, List.getElem_cons_succ, List.getElem_cons_zero, List.setIfInBounds_toArray, List.set_cons_zero, List.set_cons_succ]
        refine wpAnyH_ready (rs := [1]) (by kernel_rfl) (by simp) ?_
        refine AllReadyH.cons rfl (fun K' hK => ?_) AllReadyH.nil
        rw [if_pos (by rfl)]
        simp only [List.getElem_toArray, List.getElem_cons_succ, List.getElem_cons_zero]
        go_wp2_with fail
        refine hK.out _ _ (t2) (fun hHeld => ?_)
        clear hK K'
        try simp only [Act.put, List.getElem_toArray, List.getElem_cons_succ, List.getElem_cons_zero, List.setIfInBounds_toArray, List.set_cons_zero, List.set_cons_succ]
        refine wpAnyH_take (i := 6) (v := (.int .i64 ((en : Int) + rr))) rfl (by kernel_rfl) (by kernel_rfl) (by kernel_rfl) (fun _ _ _ h => h) (Or.inl ⟨by rfl, ?_⟩) (by assumption) ?_
        · intro w9 hSw
          try dsimp only at hSw
          go_simp
          all_goals try decide
          all_goals try assumption
          all_goals try omega
        try simp only [Act.put, List.getElem_toArray, List.getElem_cons_succ, List.getElem_cons_zero, List.setIfInBounds_toArray, List.set_cons_zero, List.set_cons_succ]
        refine wpAnyH_take (i := 7) (v := (.pointer (some ⟨hB, 5, none⟩))) rfl (by kernel_rfl) (by kernel_rfl) (by kernel_rfl) (fun _ _ _ h => h) (Or.inl ⟨by rfl, ?_⟩) (by assumption) ?_
        · intro w9 hSw
          try dsimp only at hSw
          go_simp
          all_goals try decide
          all_goals try assumption
          all_goals try omega
        try simp only [Act.put, List.getElem_toArray, List.getElem_cons_succ, List.getElem_cons_zero, List.setIfInBounds_toArray, List.set_cons_zero, List.set_cons_succ]
        refine wpAnyH_ready (rs := [8]) (by kernel_rfl) (by simp) ?_
        refine AllReadyH.cons rfl (fun K' hK => ?_) AllReadyH.nil
        rw [if_pos (by rfl)]
        simp only [List.getElem_toArray, List.getElem_cons_succ, List.getElem_cons_zero]
        go_wp2_with fail
        refine hK.out _ _ (SS2) (fun hHeld => ?_)
        clear hK K'
        try simp only [Act.put, List.getElem_toArray, List.getElem_cons_succ, List.getElem_cons_zero, List.setIfInBounds_toArray, List.set_cons_zero, List.set_cons_succ]
        refine wpAnyH_done (by kernel_rfl) ?_ _
        gi_wp2
        exact ⟨KF.out.1, KF.out.2, HE.out _ FIN.out⟩
    | nil =>
      have hLI2 : LI W0 hB fB S p first k false 0 0 all0 W := hLI
      have hhalf := hLI2.half
      obtain ⟨ss, hGB, hIG⟩ := hLI2.grp
      have h3 : W.cell? ⟨hB, 3, none⟩ = some (.bool false) := by rw [cell_of_row W _ _ _ _ _ hhalf]; rfl
      have h4 : W.cell? ⟨hB, 4, none⟩ = some (.int .u8 0) := by rw [cell_of_row W _ _ _ _ _ hhalf]; rfl
      have f3 := frozen_of_row W hB 3 _ _ hhalf
      have f4 := frozen_of_row W hB 4 _ _ hhalf
      by_cases hk1 : x.r.kind = 1
      · by_cases hl1 : x.r.bs.length = 1
        · obtain ⟨b', off', eb, hcA⟩ := hrow.at_ (by omega)
          cases eb
          have hb0 := hcA 0 (by omega)
          rw [Nat.add_zero] at hb0
          have hy := x.ok.oct.getD 0
          have HE : Hid (∀ W3, LI W0 hB fB S p first k true (x.r.bs.getD 0 0) (0 + rm x.r.bs.length) (take1 all0 x.r) W3 → LPre W0 bl hB fB S p first k ([] ++ [x]) W3) := fun W3 h3 => by
            refine ⟨?_, fun _ => ?_⟩
            · show LI W0 hB fB S p first k true (x.r.bs.getD 0 0) (roomR [x.r]) (takes all0 [x.r]) W3
              have e2 : roomR [x.r] = 0 + rm x.r.bs.length := by simp [roomR]
              rw [e2]
              exact h3
            · simp [begunR, hk1, hl1]
          generalize x.r.bs.getD 0 0 = num at *
          have gk : (x.r.kind != 1) = false := by simp [hk1]
          have gl : ((x.r.bs.length : Int) != 1) = false := by rw [hl1]; rfl
          have gl0 : (0 : Int) < x.r.bs.length := by omega
          have gne : ¬ x.r.bs = [] := fun e => by rw [e] at hl1; simp at hl1
          have K9 : Kp [hB, fB] W ((W.setCell ⟨hB, 3, none⟩ (.bool true)).setCell ⟨hB, 4, none⟩ (.int .u8 num)).drew := (((Kp.refl _ _).set _ _ (.inl (by simp))).set _ _ (.inl (by simp))).drew
          have K9' : Kp [hB] W ((W.setCell ⟨hB, 3, none⟩ (.bool true)).setCell ⟨hB, 4, none⟩ (.int .u8 num)).drew := (((Kp.refl _ _).set _ _ (.inl (by simp))).set _ _ (.inl (by simp))).drew
          have K9a : Kp [hB] W (W.setCell ⟨hB, 3, none⟩ (.bool true)).drew := ((Kp.refl _ _).set _ _ (.inl (by simp))).drew
          obtain ⟨en, hen⟩ : ∃ en : Nat, Hid (en = 0) := ⟨0, rfl⟩
          obtain ⟨gs, hgs⟩ : ∃ gs : List Gp, Hid (gs = all0) := ⟨_, rfl⟩
          have half9 : ((W.setCell ⟨hB, 3, none⟩ (.bool true)).setCell ⟨hB, 4, none⟩ (.int .u8 num)).drew.heap[hB]? = some (.cells #[.pointer (some ⟨p, 0, none⟩), .int .i64 (first : Int), .int .i64 (k : Int), .bool true, .int .u8 num, .int .i64 (en : Int)] 64 (0, 0)) := by
            show ((W.setCell ⟨hB, 3, none⟩ (.bool true)).setCell ⟨hB, 4, none⟩ (.int .u8 num)).heap[hB]? = _
            rw [heap_setCell_same _ hB 4 _ _ _ (heap_setCell_same W hB 3 _ _ _ hhalf), hen.out]
            rfl
          rw [← hgs.out] at hGB hIG HE
          have G9 : GB ((W.setCell ⟨hB, 3, none⟩ (.bool true)).setCell ⟨hB, 4, none⟩ (.int .u8 num)).drew fB gs ss := (K9'.block fB (lt_of_heap hGB) (by simpa using Ne.symm hhf)).trans hGB
          have I9 := hIG.kp K9' (by simp)
          have KQ9 := hKQ.trans (Kq.of _ K9)
          have row9 := hrow.kp' K9 (fun _ b off e => by cases e; simp [hb1, hb2])
          have w0 := K9'.cell v0 (by simpa using nBh)
          have w1 := K9'.cell v1 (by simpa using nBh)
          have w2 := K9'.cell v2 (by simpa using nBh)
          have w2a := K9a.cell v2 (by simpa using nBh)
          have hb0a := K9a.cell hb0 (by simpa using hb1)
          have hb0b := K9'.cell hb0 (by simpa using hb1)
          have HE2 : Hid (∀ W3, LI W0 hB fB S p first k true num (en + rm x.r.bs.length) (take1 gs x.r) W3 → LPre W0 bl hB fB S p first k ([] ++ [x]) W3) := by rw [hen.out]; exact HE
          have hen0 : en ≤ 0 := by rw [hen.out]; omega
          have h4a : (W.setCell ⟨hB, 3, none⟩ (.bool true)).drew.cell? ⟨hB, 4, none⟩ = some (.int .u8 0) := by
            show (W.setCell ⟨hB, 3, none⟩ (.bool true)).cell? ⟨hB, 4, none⟩ = _
            rw [cell_of_row _ hB 4 _ _ _ (heap_setCell_same W hB 3 _ _ _ hhalf)]; rfl
          have KK9 : Hid (Kp [hB, fB] W ((W.setCell ⟨hB, 3, none⟩ (.bool true)).setCell ⟨hB, 4, none⟩ (.int .u8 num)).drew) := K9
          clear hcA hhalf hGB hIG hrow hk1 hl1 HE hgs hen hLI hLI2 hKQ K9 K9' K9a
          gi_wp2
          refine region_round (S := fun z => z.cell? ⟨Bx, 2, none⟩ = some (.slice (some ⟨bl, x.off, none⟩) x.r.bs.length x.cap) ∧ z.cell? ⟨bl, x.off, none⟩ = some (.int .u8 num)) (fun _ _ h => h) (by kernel_rfl) (by kernel_rfl) (⟨v2, hb0⟩) (fun hHeld => ?_)
          refine wpAnyH_take (i := 0) (v := (.pointer (some ⟨Bx, 2, none⟩))) rfl (by kernel_rfl) (by kernel_rfl) (by kernel_rfl) (fun _ _ _ h => h) (Or.inl ⟨by rfl, ?_⟩) (by assumption) ?_
          · intro w9 hSw
            try dsimp only at hSw
            go_simp
            all_goals try decide
            all_goals try assumption
            all_goals try omega
          try simp only [Act.put, List.getElem_toArray, List.getElem_cons_succ, List.getElem_cons_zero, List.setIfInBounds_toArray, List.set_cons_zero, List.set_cons_succ]
          refine wpAnyH_take (i := 1) (v := (.slice (some ⟨bl, x.off, none⟩) x.r.bs.length x.cap)) rfl (by kernel_rfl) (by kernel_rfl) (by kernel_rfl) (fun _ _ _ h => h) (Or.inl ⟨by rfl, ?_⟩) (by assumption) ?_
          · intro w9 hSw
            try dsimp only at hSw
            go_simp
            all_goals try decide
            all_goals try assumption
            all_goals try omega
          try simp only [Act.put, List.getElem_toArray, List.getElem_cons_succ, List.getElem_cons_zero, List.setIfInBounds_toArray, List.set_cons_zero, List.set_cons_succ]
          refine wpAnyH_take (i := 2) (v := (.pointer (some ⟨bl, x.off, none⟩))) rfl (by kernel_rfl) (by kernel_rfl) (by kernel_rfl) (fun _ _ _ h => h) (Or.inl ⟨by rfl, ?_⟩) (by assumption) ?_
          · intro w9 hSw
            try dsimp only at hSw
            go_simp
            all_goals try decide
            all_goals try assumption
            all_goals try omega
          try simp only [Act.put, List.getElem_toArray, List.getElem_cons_succ, List.getElem_cons_zero, List.setIfInBounds_toArray, List.set_cons_zero, List.set_cons_succ]
          refine wpAnyH_take (i := 3) (v := (.int .u8 num)) rfl (by kernel_rfl) (by kernel_rfl) (by kernel_rfl) (fun _ _ _ h => h) (Or.inl ⟨by rfl, ?_⟩) (by assumption) ?_
          · intro w9 hSw
            try dsimp only at hSw
            go_simp
            all_goals try decide
            all_goals try assumption
            all_goals try omega
          try simp only [Act.put, List.getElem_toArray, List.getElem_cons_succ, List.getElem_cons_zero, List.setIfInBounds_toArray, List.set_cons_zero, List.set_cons_succ]
          refine wpAnyH_take (i := 4) (v := (.pointer (some ⟨hB, 3, none⟩))) rfl (by kernel_rfl) (by kernel_rfl) (by kernel_rfl) (fun _ _ _ h => h) (Or.inl ⟨by rfl, ?_⟩) (by assumption) ?_
          · intro w9 hSw
            try dsimp only at hSw
            go_simp
            all_goals try decide
            all_goals try assumption
            all_goals try omega
          try simp only [Act.put, List.getElem_toArray, List.getElem_cons_succ, List.getElem_cons_zero, List.setIfInBounds_toArray, List.set_cons_zero, List.set_cons_succ]
          refine wpAnyH_ready (rs := [5]) (by kernel_rfl) (by simp) ?_
          refine AllReadyH.cons rfl (fun K' hK => ?_) AllReadyH.nil
          rw [if_pos (by rfl)]
          simp only [List.getElem_toArray, List.getElem_cons_succ, List.getElem_cons_zero]
          go_wp2_with fail
          refine hK.out _ _ (⟨w2a, hb0a⟩) (fun hHeld => ?_)
          clear hK K'
          try simp only [Act.put, List.getElem_toArray, List.getElem_cons_succ, List.getElem_cons_zero, List.setIfInBounds_toArray, List.set_cons_zero, List.set_cons_succ]
          refine wpAnyH_take (i := 6) (v := (.pointer (some ⟨hB, 4, none⟩))) rfl (by kernel_rfl) (by kernel_rfl) (by kernel_rfl) (fun _ _ _ h => h) (Or.inl ⟨by rfl, ?_⟩) (by assumption) ?_
          · intro w9 hSw
            try dsimp only at hSw
            go_simp
            all_goals try decide
            all_goals try assumption
            all_goals try omega
          try simp only [Act.put, List.getElem_toArray, List.getElem_cons_succ, List.getElem_cons_zero, List.setIfInBounds_toArray, List.set_cons_zero, List.set_cons_succ]
          refine wpAnyH_ready (rs := [7]) (by kernel_rfl) (by simp) ?_
          refine AllReadyH.cons rfl (fun K' hK => ?_) AllReadyH.nil
          rw [if_pos (by rfl)]
          simp only [List.getElem_toArray, List.getElem_cons_succ, List.getElem_cons_zero]
          go_wp2_with fail
          refine hK.out _ _ (⟨w2, hb0b⟩) (fun hHeld => ?_)
          clear hK K'
          try simp only [Act.put, List.getElem_toArray, List.getElem_cons_succ, List.getElem_cons_zero, List.setIfInBounds_toArray, List.set_cons_zero, List.set_cons_succ]
          refine wpAnyH_done (by kernel_rfl) ?_ _
          clear hb0a hb0b w2a h4a h3 h4 f3 f4 v0 v1 v2
          generalize ((W.setCell ⟨hB, 3, none⟩ (.bool true)).setCell ⟨hB, 4, none⟩ (.int .u8 num)).drew = V9 at *
          have TK := take_any G9 I9 (by simp) (fun s hs => by
            have hz := KQ9.size
            rcases List.mem_cons.1 hs with rfl | hs
            · omega
            rcases List.mem_cons.1 hs with rfl | hs
            · omega
            have := hS s hs
            omega) x.r x.ok (some ⟨bl, x.off, none⟩) x.r.bs.length x.cap row9
          have HKQ : Hid (Kq [hB, fB] W0.heap.size W0 V9) := KQ9
          have HHF : Hid (V9.heap[hB]? = some (.cells #[.pointer (some ⟨p, 0, none⟩), .int .i64 (first : Int), .int .i64 (k : Int), .bool true, .int .u8 num, .int .i64 (en : Int)] 64 (0, 0))) := half9
          have RM := room_any x.r.bs.length (by have := x.ok.len; omega)
          have r1 := rm_lt x.r.bs.length
          have r2 := x.ok.len
          have h5 : V9.cell? ⟨hB, 5, none⟩ = some (.int .i64 (en : Int)) := by rw [cell_of_row V9 _ _ _ _ _ half9]; rfl
          have NXL : Hid (x.r.bs.length ≤ 4096) := r2
          generalize x.r.bs.length = nn at *
          generalize rm nn = rr at *
          have gE : (en : Int) + rr ≤ 5000000000 := by omega
          have gW : IntKind.i64.wrap ((en : Int) + rr) = (en : Int) + rr := by rw [IntKind.wrap_i64]; omega
          clear half9 G9 I9 KQ9
          gi_wp2_with fail
          refine ⟨trivial, ?_⟩
          with_reducible refine (CallsIn.inRound l (callsIn_wide.2 TK)).mono ?_
          rintro e V ⟨rfl, ⟨ss2, hG2, hI2⟩, hK2⟩
          clear TK
          have t5 := hK2.cell h5 (by simpa using hhf)
          have t2 := hK2.cell w2 (by simpa using nBf)
          have H2 : Hid (V.heap[hB]? = _) := (hK2.block hB (lt_of_heap HHF.out) (by simpa using hhf)).trans HHF.out
          have f5 := frozen_of_row V hB 5 _ _ H2.out
          have ST : V.drew.setCell ⟨hB, 5, none⟩ (.int .i64 ((en : Int) + rr)) = V.drew.setCell ⟨hB, 5, none⟩ (.int .i64 ((en : Int) + rr)) := rfl
          have K3 : Kp [hB, fB] V9 (V.drew.setCell ⟨hB, 5, none⟩ (.int .i64 ((en : Int) + rr))) := ((hK2.more (by simp)).drew).set _ _ (.inl (by simp))
          have K3' : Kp [hB] V (V.drew.setCell ⟨hB, 5, none⟩ (.int .i64 ((en : Int) + rr))) := ((Kp.refl _ _).drew).set _ _ (.inl (by simp))
          have FIN : Hid (LI W0 hB fB S p first k true num (en + rr) (take1 gs x.r) (V.drew.setCell ⟨hB, 5, none⟩ (.int .i64 ((en : Int) + rr)))) := by
            refine ⟨?_, ⟨ss2, (K3'.block fB (lt_of_heap hG2) (by simpa using Ne.symm hhf)).trans hG2, hI2.kp K3' (by simp)⟩, HKQ.out.trans (Kq.of _ K3)⟩
            have e9 := heap_setCell_same V.drew hB 5 _ _ (.int .i64 ((en : Int) + rr)) H2.out
            rw [e9]
            have e8 : ((en + rr : Nat) : Int) = (en : Int) + rr := by omega
            rw [e8]
            rfl
          have SS2 : (V.drew.setCell ⟨hB, 5, none⟩ (.int .i64 ((en : Int) + rr))).cell? ⟨Bx, 2, none⟩ = some (.slice (some ⟨bl, x.off, none⟩) nn x.cap) := K3'.cell t2 (by simpa using nBh)
          have KF : Hid (KeepsFrom W0.heap.size W (V.drew.setCell ⟨hB, 5, none⟩ (.int .i64 ((en : Int) + rr))) ∧ Kq [hB, fB] W0.heap.size W (V.drew.setCell ⟨hB, 5, none⟩ (.int .i64 ((en : Int) + rr)))) := ⟨keeps_of_kp (KK9.out.trans K3) (by simp; omega), Kq.of _ (KK9.out.trans K3)⟩
          clear hG2 hI2
          gi_wp2
          refine region_round (S := fun z => z.cell? ⟨Bx, 2, none⟩ = some (.slice (some ⟨bl, x.off, none⟩) nn x.cap)) (fun _ _ h => h) (by kernel_rfl) (by kernel_rfl) (t2) (fun hHeld => ?_)
          refine wpAnyH_take (i := 0) (v := (.pointer (some ⟨hB, 5, none⟩))) rfl (by kernel_rfl) (by kernel_rfl) (by kernel_rfl) (fun _ _ _ h => h) (Or.inl ⟨by rfl, ?_⟩) (by assumption) ?_
          · intro w9 hSw
            try dsimp only at hSw
            go_simp
            all_goals try decide
            all_goals try assumption
            all_goals try omega
          try simp only [Act.put, List.getElem_toArray, List.getElem_cons_succ, List.getElem_cons_zero, List.setIfInBounds_toArray, List.set_cons_zero, List.set_cons_succ]
          refine wpAnyH_take (i := 2) (v := (.pointer (some ⟨Bx, 2, none⟩))) rfl (by kernel_rfl) (by kernel_rfl) (by kernel_rfl) (fun _ _ _ h => h) (Or.inl ⟨by rfl, ?_⟩) (by assumption) ?_
          · intro w9 hSw
            try dsimp only at hSw
            go_simp
            all_goals try decide
            all_goals try assumption
            all_goals try omega
          try simp only [Act.put, List.getElem_toArray, List.getElem_cons_succ, List.getElem_cons_zero, List.setIfInBounds_toArray, List.set_cons_zero, List.set_cons_succ]
          refine wpAnyH_take (i := 3) (v := (.slice (some ⟨bl, x.off, none⟩) nn x.cap)) rfl (by kernel_rfl) (by kernel_rfl) (by kernel_rfl) (fun _ _ _ h => h) (Or.inl ⟨by rfl, ?_⟩) (by assumption) ?_
          · intro w9 hSw
            try dsimp only at hSw
            go_simp
            all_goals try decide
            all_goals try assumption
            all_goals try omega
          try simp only [Act.put, List.getElem_toArray, List.getElem_cons_succ, List.getElem_cons_zero, List.setIfInBounds_toArray, List.set_cons_zero, List.set_cons_succ]
          refine wpAnyH_take (i := 4) (v := (.int .i64 (nn : Int))) rfl (by kernel_rfl) (by kernel_rfl) (by kernel_rfl) (fun _ _ _ h => h) (Or.inl ⟨by rfl, ?_⟩) (by assumption) ?_
          · intro w9 hSw
            try dsimp only at hSw
            go_simp
            all_goals try decide
            all_goals try assumption
            all_goals try omega
          try simp only [Act.put, List.getElem_toArray, List.getElem_cons_succ, List.getElem_cons_zero, List.setIfInBounds_toArray, List.set_cons_zero, List.set_cons_succ]
          refine wpAnyH_ready (rs := [1, 5]) (by kernel_rfl) (by simp) ?_
          refine AllReadyH.cons rfl (fun K' hK => ?_) (AllReadyH.cons rfl (fun K' hK => ?_) AllReadyH.nil)
          · rw [if_pos (by rfl)]
            simp only [List.getElem_toArray, List.getElem_cons_succ, List.getElem_cons_zero]
            go_wp2_with fail
            refine hK.out _ _ (t2) (fun hHeld => ?_)
            clear hK K'
            try simp only [Act.put, List.getElem_toArray, List.getElem_cons_succ, List.getElem_cons_zero, List.setIfInBounds_toArray, List.set_cons_zero, List.set_cons_succ]
            refine wpAnyH_ready (rs := [5]) (by kernel_rfl) (by simp) ?_
            refine AllReadyH.cons rfl (fun K' hK => ?_) AllReadyH.nil
            rw [if_pos (by rfl)]
            simp only [List.getElem_toArray, List.getElem_cons_succ, List.getElem_cons_zero]
            go_wp2_with fail
            refine (RM _).mono ?_
            rintro e V1 ⟨rfl, rfl⟩
            try go_wp2_with fail
            refine hK.out _ _ (t2) (fun hHeld => ?_)
            clear hK K'
            try simp only [Act.put, List.getElem_toArray, List.getElem_cons_succ, List.getElem_cons_zero, List.setIfInBounds_toArray, List.set_cons_zero, List.set_cons_succ]
            refine wpAnyH_take (i := 6) (v := (.int .i64 ((en : Int) + rr))) rfl (by kernel_rfl) (by kernel_rfl) (by kernel_rfl) (fun _ _ _ h => h) (Or.inl ⟨by rfl, ?_⟩) (by assumption) ?_
            · intro w9 hSw
              try dsimp only at hSw
              go_simp
              all_goals try decide
              all_goals try assumption
              all_goals try omega
            try simp only [Act.put, List.getElem_toArray, List.getElem_cons_succ, List.getElem_cons_zero, List.setIfInBounds_toArray, List.set_cons_zero, List.set_cons_succ]
            refine wpAnyH_take (i := 7) (v := (.pointer (some ⟨hB, 5, none⟩))) rfl (by kernel_rfl) (by kernel_rfl) (by kernel_rfl) (fun _ _ _ h => h) (Or.inl ⟨by rfl, ?_⟩) (by assumption) ?_
            · intro w9 hSw
              try dsimp only at hSw
              go_simp
              all_goals try decide
              all_goals try assumption
              all_goals try omega
            try simp only [Act.put, List.getElem_toArray, List.getElem_cons_succ, List.getElem_cons_zero, List.setIfInBounds_toArray, List.set_cons_zero, List.set_cons_succ]
            refine wpAnyH_ready (rs := [8]) (by kernel_rfl) (by simp) ?_
            refine AllReadyH.cons rfl (fun K' hK => ?_) AllReadyH.nil
            rw [if_pos (by rfl)]
            simp only [List.getElem_toArray, List.getElem_cons_succ, List.getElem_cons_zero]
            go_wp2_with fail
            refine hK.out _ _ (SS2) (fun hHeld => ?_)
            clear hK K'
            try simp only [Act.put, List.getElem_toArray, List.getElem_cons_succ, List.getElem_cons_zero, List.setIfInBounds_toArray, List.set_cons_zero, List.set_cons_succ]
            refine wpAnyH_done (by kernel_rfl) ?_ _
            gi_wp2
            exact ⟨KF.out.1, KF.out.2, HE2.out _ FIN.out⟩
          · rw [if_pos (by rfl)]
            simp only [List.getElem_toArray, List.getElem_cons_succ, List.getElem_cons_zero]
            go_wp2_with fail
            refine (RM _).mono ?_
            rintro e V1 ⟨rfl, rfl⟩
            try go_wp2_with fail
            refine hK.out _ _ (t2) (fun hHeld => ?_)
            clear hK K'
            try simp only [Act.put, List.getElem_toArray, List.getElem_cons_succ, List.getElem_cons_zero, List.setIfInBounds_toArray, List.set_cons_zero, List.set_cons_succ]
            refine wpAnyH_ready (rs := [1]) (by kernel_rfl) (by simp) ?_
            refine AllReadyH.cons rfl (fun K' hK => ?_) AllReadyH.nil
            rw [if_pos (by rfl)]
            simp only [List.getElem_toArray, List.getElem_cons_succ, List.getElem_cons_zero]
            go_wp2_with fail
            refine hK.out _ _ (t2) (fun hHeld => ?_)
            clear hK K'
            try simp only [Act.put, List.getElem_toArray, List.getElem_cons_succ, List.getElem_cons_zero, List.setIfInBounds_toArray, List.set_cons_zero, List.set_cons_succ]
            refine wpAnyH_take (i := 6) (v := (.int .i64 ((en : Int) + rr))) rfl (by kernel_rfl) (by kernel_rfl) (by kernel_rfl) (fun _ _ _ h => h) (Or.inl ⟨by rfl, ?_⟩) (by assumption) ?_
            · intro w9 hSw
              try dsimp only at hSw
              go_simp
              all_goals try decide
              all_goals try assumption
              all_goals try omega
            try simp only [Act.put, List.getElem_toArray, List.getElem_cons_succ, List.getElem_cons_zero, List.setIfInBounds_toArray, List.set_cons_zero, List.set_cons_succ]
            refine wpAnyH_take (i := 7) (v := (.pointer (some ⟨hB, 5, none⟩))) rfl (by kernel_rfl) (by kernel_rfl) (by kernel_rfl) (fun _ _ _ h => h) (Or.inl ⟨by rfl, ?_⟩) (by assumption) ?_
            · intro w9 hSw
              try dsimp only at hSw
              go_simp
              all_goals try decide
              all_goals try assumption
              all_goals try omega
            try simp only [Act.put, List.getElem_toArray, List.getElem_cons_succ, List.getElem_cons_zero, List.setIfInBounds_toArray, List.set_cons_zero, List.set_cons_succ]
            refine wpAnyH_ready (rs := [8]) (by kernel_rfl) (by simp) ?_
            refine AllReadyH.cons rfl (fun K' hK => ?_) AllReadyH.nil
            rw [if_pos (by rfl)]
            simp only [List.getElem_toArray, List.getElem_cons_succ, List.getElem_cons_zero]
            go_wp2_with fail
            refine hK.out _ _ (SS2) (fun hHeld => ?_)
            clear hK K'
            try simp only [Act.put, List.getElem_toArray, List.getElem_cons_succ, List.getElem_cons_zero, List.setIfInBounds_toArray, List.set_cons_zero, List.set_cons_succ]
            refine wpAnyH_done (by kernel_rfl) ?_ _
            gi_wp2
            exact ⟨KF.out.1, KF.out.2, HE2.out _ FIN.out⟩
        · have gk : (x.r.kind != 1) = false := by simp [hk1]
          have gl : ((x.r.bs.length : Int) != 1) = true := by rw [bne_iff_ne]; omega
          have FX : Hid (LOut W0 bl hB fB S p first k (.exit 0) ([] ++ [x]) W) := ⟨rfl, ⟨by simp, by simp [begunR, hl1]⟩, hLI2⟩
          clear hLI hLI2 hk1 hl1
          gi_wp2
          exact ⟨KeepsFrom.refl _ _, FX.out⟩
      · have gk : (x.r.kind != 1) = true := by simp [hk1]
        have FX : Hid (LOut W0 bl hB fB S p first k (.exit 0) ([] ++ [x]) W) := ⟨rfl, ⟨by simp, by simp [begunR, hk1]⟩, hLI2⟩
        clear hLI hLI2 hk1
        gi_wp2
        exact ⟨KeepsFrom.refl _ _, FX.out⟩
  case done =>
    rintro D ys W hD h1 h2 h3
    exact hdone D ys W hD h1 h2 h3
  case stop =>
    rintro D c pre W hD h1 ⟨rfl, h2⟩ h3
    gi_wp2
    exact hstop D pre W hD h1 ⟨rfl, h2⟩ h3
end Go.Proofs.Ytgpbmccjcjoijaa
