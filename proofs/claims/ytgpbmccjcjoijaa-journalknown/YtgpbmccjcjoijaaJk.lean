/-
  The walk of lookAt.
-/
import Derived.Test.YtgpbmccjcjoijaaJm
namespace Go.Proofs.Ytgpbmccjcjoijaa
open Go.RowKit Go.Shelf
attribute [local go_sem] Oper.semAt_some

theorem look_done {W0 : World} {bl : Nat} {b : List Int} (ho : Oct b) (ys : List (RX W0 bl)) (h : ys.map (·.r) = recs b) (hb : ys ≠ [] → begunR (ys.map (·.r)) = true) : look b = ⟨!ys.isEmpty, numR (ys.map (·.r)), endOf b (roomR (ys.map (·.r))), takes all0 (ys.map (·.r))⟩ := by
  cases ys with
  | nil =>
    have e : recs b = [] := h.symm
    rw [look_not (by rw [e]; rfl)]
    rfl
  | cons y q =>
    have := hb (by simp)
    rw [h] at this ⊢
    rw [look_of (Parts.of ho) this]
    rfl
theorem look_stop {W0 : World} {bl : Nat} {b : List Int} (pre : List (RX W0 bl)) (h : pre.map (·.r) <+: recs b) (hn : pre ≠ []) (hb : begunR (pre.map (·.r)) = false) : look b = ⟨false, 0, endOf b 0, all0⟩ := by
  refine look_not ?_
  cases pre with
  | nil => exact absurd rfl hn
  | cons y q =>
    obtain ⟨t, ht⟩ := h
    rw [← ht]
    exact hb
theorem roomR_done {b : List Int} (ho : Oct b) : roomR (recs b) ≤ b.length := by
  have hp := Parts.of ho
  rw [← encs_len]
  have := congrArg List.length hp.eq
  rw [List.length_append] at this
  omega
theorem IsG.mono {w : World} {S S' : List Nat} {all : List Gp} {ss : List SL} (h : IsG w S all ss) (hs : ∀ x ∈ S', x ∈ S) : IsG w S' all ss := ⟨h.n1, h.n2, fun i g s h1 h2 => by
  obtain ⟨r, l, b⟩ := h.row i g s h1 h2
  exact ⟨r, l, fun hp bl off e hm => b hp bl off e (hs _ hm)⟩⟩

set_option linter.unusedSimpArgs false in
set_option maxHeartbeats 4000000 in
set_option maxRecDepth 100000 in
theorem lookAt_any {w : World} {p B n cap : Nat} {s : FS} (h : IsS w p B n cap s) (ho : s.of = false) (first k : Nat) (hk : 1 ≤ k) (hf : first + k ≤ n) (S : List Nat) (hS : ∀ x ∈ S, x < w.heap.size) :
    Calls Try.prog 33 #[.agg #[.pointer (some ⟨p, 0, none⟩), .int .i64 first, .int .i64 k]] w fun e w' => (∃ ss, e = .returned (.tuple #[.agg (half6 p first k (look (part s.cs first k)).bg (look (part s.cs first k)).num (look (part s.cs first k)).en).toArray, .agg (gflat (look (part s.cs first k)).gs ss).toArray, .int .i64 0]) ∧ IsG w' S (look (part s.cs first k)).gs ss) ∧ Below w.heap.size w w' := by
  have hn2 := h.n2
  have hlen := h.len
  have BW1 : Below w.heap.size w (((w.alloc (.cells #[.pointer (some ⟨p, 0, none⟩), .int .i64 (first : Int), .int .i64 (k : Int)] 62)).alloc (.cells #[.pointer none, .int .i64 0, .int .i64 0, .bool false, .int .u8 0, .int .i64 0] 64)).alloc (.cells z48 68)) := Below.al (Below.al (Below.al (Below.refl _ _) _) _) _
  have RD := rread_any (h.next BW1) ho first k hf
  have PL := part_len hlen hf
  have PO := part_oct h.oct first k
  refine (callsIn_wide (n := 10)).1 (callsIn_of_wp_marks Try.func33 rfl trivial ?_ rfl)
  simp only [Try.ntmps33, List.size_toArray, List.length_cons, List.length_nil, Nat.reduceAdd, Nat.reduceSub, Array.replicate_succ, Array.replicate_zero, List.push_toArray, List.append_toArray, List.nil_append, List.cons_append]
  refine wpIn_wide.2 ?_
  generalize part s.cs first k = b at *
  go_wp2_with (refine wpList_alloc68 rfl rfl ?_)
  have q0 : (((w.alloc (.cells #[.pointer (some ⟨p, 0, none⟩), .int .i64 (first : Int), .int .i64 (k : Int)] 62)).alloc (.cells #[.pointer none, .int .i64 0, .int .i64 0, .bool false, .int .u8 0, .int .i64 0] 64)).alloc (.cells z48 68)).heap[w.heap.size]? = some (.cells #[.pointer (some ⟨p, 0, none⟩), .int .i64 (first : Int), .int .i64 (k : Int)] 62 (0, 0)) := by
    rw [Below.heap_alloc _ _ _ (by simp; omega), Below.heap_alloc _ _ _ (by simp)]; exact heap_alloc_new w _
  have q1 : (((w.alloc (.cells #[.pointer (some ⟨p, 0, none⟩), .int .i64 (first : Int), .int .i64 (k : Int)] 62)).alloc (.cells #[.pointer none, .int .i64 0, .int .i64 0, .bool false, .int .u8 0, .int .i64 0] 64)).alloc (.cells z48 68)).heap[w.heap.size + 1]? = some (.cells #[.pointer none, .int .i64 0, .int .i64 0, .bool false, .int .u8 0, .int .i64 0] 64 (0, 0)) := by
    rw [Below.heap_alloc _ _ _ (by simp)]
    have := heap_alloc_new (w.alloc (.cells #[.pointer (some ⟨p, 0, none⟩), .int .i64 (first : Int), .int .i64 (k : Int)] 62)) (.cells #[.pointer none, .int .i64 0, .int .i64 0, .bool false, .int .u8 0, .int .i64 0] 64)
    rwa [World.size_alloc] at this
  have q2 : (((w.alloc (.cells #[.pointer (some ⟨p, 0, none⟩), .int .i64 (first : Int), .int .i64 (k : Int)] 62)).alloc (.cells #[.pointer none, .int .i64 0, .int .i64 0, .bool false, .int .u8 0, .int .i64 0] 64)).alloc (.cells z48 68)).heap[w.heap.size + 1 + 1]? = some (.cells z48 68 (0, 0)) := by
    have := heap_alloc_new ((w.alloc (.cells #[.pointer (some ⟨p, 0, none⟩), .int .i64 (first : Int), .int .i64 (k : Int)] 62)).alloc (.cells #[.pointer none, .int .i64 0, .int .i64 0, .bool false, .int .u8 0, .int .i64 0] 64)) (.cells z48 68)
    rwa [World.size_alloc, World.size_alloc] at this
  generalize (((w.alloc (.cells #[.pointer (some ⟨p, 0, none⟩), .int .i64 (first : Int), .int .i64 (k : Int)] 62)).alloc (.cells #[.pointer none, .int .i64 0, .int .i64 0, .bool false, .int .u8 0, .int .i64 0] 64)).alloc (.cells z48 68)) = X at *
  with_reducible refine RD.mono ?_
  rintro e Y ⟨⟨a, c, rfl, hT⟩, hb⟩
  obtain ⟨bl, rfl, hbl, hfz⟩ := hT.own (by omega)
  have BY : Below w.heap.size w Y := BW1.trans (hb.mono BW1.size)
  have ZX := lt_of_heap q2
  replace q0 := (hb.block _ (by omega)).trans q0
  replace q1 := (hb.block _ (by omega)).trans q1
  replace q2 := (hb.block _ (by omega)).trans q2
  have HT : Hid (Row Y (some ⟨bl, 0, none⟩) (1024 * k) b) := hT.row
  have hcap : 1024 * k ≤ c := hT.le
  have hblY : bl < Y.heap.size := hT.row.old (by omega) bl 0 rfl
  have c0 : Y.cell? ⟨w.heap.size, 0, none⟩ = some (.pointer (some ⟨p, 0, none⟩)) := by rw [cell_of_row Y _ _ _ _ _ q0]; rfl
  have c1 : Y.cell? ⟨w.heap.size, 1, none⟩ = some (.int .i64 (first : Int)) := by rw [cell_of_row Y _ _ _ _ _ q0]; rfl
  have c2 : Y.cell? ⟨w.heap.size, 2, none⟩ = some (.int .i64 (k : Int)) := by rw [cell_of_row Y _ _ _ _ _ q0]; rfl
  have hYs : w.heap.size + 1 + 1 < Y.heap.size := by have := hb.size; omega
  clear RD hT hb BW1 h ho hlen hfz
  generalize hK0 : w.heap.size = z0 at *
  have HK0 : Hid (w.heap.size = z0) := hK0
  clear hK0
  have STG : ∀ W : World, (storeVar 68 ⟨W.heap.size, 0, none⟩ (.agg z48)).run Try.prog (W.alloc (.cells z48 68)) = .ok () (W.alloc (.cells z48 68)) := fun W => by
    have := store68 (W := W.alloc (.cells z48 68)) (C := z48) (by rfl) (heap_alloc_new W _) all0 ss0 rfl rfl
    rw [show (gflat all0 ss0).toArray = z48 from rfl, setRow_self _ _ _ _ _ (heap_alloc_new W _)] at this
    exact this
  have STG2 := STG (Y.alloc (.cells #[.pointer (some ⟨p, 0, none⟩), .int .i64 (first : Int), .int .i64 (k : Int), .bool false, .int .u8 0, .int .i64 0] 64))
  rw [World.size_alloc] at STG2
  clear STG
  go_wp2_with (first | refine wpList_alloc68 rfl rfl ?_ | refine wpList_build68 rfl rfl ?_ | refine wpList_store_by rfl 68 (.tmp 8) (.tmp 22) rfl _ _ rfl rfl STG2 ?_)
  have RC := records_any (some ⟨bl, 0, none⟩) (1024 * k) c ((Y.alloc (.cells #[.pointer (some ⟨p, 0, none⟩), .int .i64 (first : Int), .int .i64 (k : Int), .bool false, .int .u8 0, .int .i64 0] 64)).alloc (.cells z48 68))
  with_reducible refine RC.mono ?_
  rintro e W0 ⟨rfl, hW0⟩
  clear RC STG2
  obtain ⟨N1, hN1⟩ : ∃ N1, Hid (Y.heap.size = N1) := ⟨_, rfl⟩
  have KY0 : Kp [] Y W0 := by rw [hW0]; exact ((((Kp.refl [] Y).al _).al _).al _)
  have sz0 : W0.heap.size = N1 + 3 := by rw [hW0, ← hN1.out]; simp
  have m7 : W0.heap[N1]? = some (.cells #[.pointer (some ⟨p, 0, none⟩), .int .i64 (first : Int), .int .i64 (k : Int), .bool false, .int .u8 0, .int .i64 0] 64 (0, 0)) := by
    rw [hW0, ← hN1.out, Below.heap_alloc _ _ _ (by simp; omega), Below.heap_alloc _ _ _ (by simp)]; exact heap_alloc_new Y _
  have m8 : GB W0 (N1 + 1) all0 ss0 := by
    show _ = _
    rw [hW0, ← hN1.out, Below.heap_alloc _ _ _ (by simp)]
    have := heap_alloc_new (Y.alloc (.cells #[.pointer (some ⟨p, 0, none⟩), .int .i64 (first : Int), .int .i64 (k : Int), .bool false, .int .u8 0, .int .i64 0] 64)) (.cells z48 68)
    rwa [World.size_alloc] at this
  have m9 : W0.heap[N1 + 1 + 1]? = some (.cells #[.slice (some ⟨bl, 0, none⟩) (1024 * k) c] 33 (0, 0)) := by
    rw [hW0, ← hN1.out]
    have := heap_alloc_new ((Y.alloc (.cells #[.pointer (some ⟨p, 0, none⟩), .int .i64 (first : Int), .int .i64 (k : Int), .bool false, .int .u8 0, .int .i64 0] 64)).alloc (.cells z48 68)) (.cells #[.slice (some ⟨bl, 0, none⟩) (1024 * k) c] 33)
    rwa [World.size_alloc, World.size_alloc] at this
  have HW0 : Hid (W0 = _) := hW0
  have m1 := (KY0.block _ (by omega) (by simp)).trans q1
  have m2 := (KY0.block _ (by omega) (by simp)).trans q2
  have RB : Row W0 (some ⟨bl, 0, none⟩) (1024 * k) b := HT.out.next KY0.bel
  clear hW0 q0 q1 q2 c0 c1 c2
  rw [hN1.out] at hYs hblY ⊢
  have hbl3 : z0 + 1 + 1 < bl := by omega
  simp only [World.size_alloc, hN1.out]
  go_wp2_with fail
  have hSS : ∀ x ∈ (z0 + 1) :: (z0 + 1 + 1) :: S, x < W0.heap.size := fun x hx => by
    rcases List.mem_cons.1 hx with rfl | hx
    · omega
    rcases List.mem_cons.1 hx with rfl | hx
    · omega
    have := hS x hx
    omega
  have h0 : LI W0 N1 (N1 + 1) ((z0 + 1) :: (z0 + 1 + 1) :: S) p first k false 0 0 all0 W0 := ⟨m7, ⟨ss0, m8, isG0 _ _⟩, Kq.of _ (Kp.refl _ _)⟩
  have KW0 : Kp [] w W0 := (Kp.of (by rw [HK0.out]; exact BY)).trans KY0
  have PO' := PO
  have FINR : Hid (∀ (W V : World) (D : Nat) (l : LK) (ss' : List SL), look b = l → W0.heap.size ≤ D → Kq [N1, N1 + 1] W0.heap.size W0 W → Kp [N1, z0 + 1, z0 + 1 + 1, D] W V → IsG V ((z0 + 1) :: (z0 + 1 + 1) :: S) l.gs ss' → (∃ ss, Ending.returned (.tuple #[.agg (half6 p first k l.bg l.num l.en).toArray, .agg (gflat l.gs ss').toArray, .int .i64 0]) = .returned (.tuple #[.agg (half6 p first k (look b).bg (look b).num (look b).en).toArray, .agg (gflat (look b).gs ss).toArray, .int .i64 0]) ∧ IsG V S (look b).gs ss) ∧ Below w.heap.size w V) := fun W V D l ss' hl hD k1 k2 hI => by
    subst hl
    refine ⟨⟨ss', rfl, hI.mono (fun x hx => by simp [hx])⟩, ?_⟩
    have e := HK0.out
    refine ⟨(k2.os.trans k1.os).trans KW0.os, (k2.tape.trans k1.tape).trans KW0.tape, (k2.output.trans k1.output).trans KW0.output, by have := k2.size; have := k1.size; have := KW0.size; omega, fun x hx => ?_⟩
    have hxW : x < W0.heap.size := by have := KW0.size; omega
    obtain ⟨o, ho⟩ : ∃ o, W0.heap[x]? = some o := ⟨_, Array.getElem?_eq_getElem hxW⟩
    rw [k2.block x (by have := k1.size; omega) (by simp; omega), k1.block x o ho (by simp; omega) (.inl hxW), ← ho]
    exact KW0.block x hx (by simp)
  refine lk_loop _ _ _ _ _ _ _ _ _ _ _ _ _ _ _ _ _ _ _ _ _ _ _ _ _ _ _ _ _ _ _ _ _ _ _ _ _ _ _ _ _ _ _ _ _ _ _ _ _ _ _ _ _ _ _ _ _ _ _ _ _ _ W0 p first k bl (1024 * k) c (N1 + 1 + 1) N1 (N1 + 1) ((z0 + 1) :: (z0 + 1 + 1) :: S) b RB (by omega) hcap (by omega) (by omega) (by omega) (by omega) (by omega) (by omega) m9 hSS h0 ?_ ?_
  · rintro D ys W hD h1 ⟨hLI, hbg⟩ hDf
    have LK := look_done PO' ys h1 hbg
    obtain ⟨ss, hGB, hIG⟩ := hLI.grp
    have hro2 : Row W (some ⟨bl, 0, none⟩) (1024 * k) b := RB.kq hLI.keep (fun _ b' off' e => by cases e; simp; omega)
    have w1 := hLI.keep.cells m1 (by simp; omega)
    have w2 := hLI.keep.cells m2 (by simp; omega)
    have hen : roomR (ys.map (·.r)) ≤ 1024 * k := by have h9 := roomR_done PO'; rw [← h1, PL] at h9; exact h9
    refine ‹∀ (a : Act) (w : World), Code.wp Try.prog lkRest _ a w → _› _ _ ?_
    exact lk_after _ _ _ _ _ _ _ _ _ _ _ _ _ _ _ _ _ _ _ _ _ _ _ _ _ _ _ _ _ _ _ _ _ _ _ _ _ _ _ _ _ _ _ _ _ _ _ _ _ _ _ _ _ _ _ _ _ _ _ _ W p first k bl (1024 * k) c N1 (N1 + 1) (z0 + 1) (z0 + 1 + 1) D ((z0 + 1) :: (z0 + 1 + 1) :: S) b _ _ _ _ ss (by omega) rfl hro2 hen hcap hLI.half hGB hIG hDf w1 w2 (by omega) (by omega) (by omega) (by omega) (by omega) (by omega) (by simp) (by simp) (fun V ss' hKV hIV => FINR.out W V D _ ss' LK hD hLI.keep hKV hIV)
  · rintro D pre W hD h1 ⟨_, ⟨hne, hbg⟩, hLI⟩ hDf
    have LK := look_stop pre h1 hne hbg
    obtain ⟨ss, hGB, hIG⟩ := hLI.grp
    have hro2 : Row W (some ⟨bl, 0, none⟩) (1024 * k) b := RB.kq hLI.keep (fun _ b' off' e => by cases e; simp; omega)
    have w1 := hLI.keep.cells m1 (by simp; omega)
    have w2 := hLI.keep.cells m2 (by simp; omega)
    refine ‹∀ (a : Act) (w : World), Code.wp Try.prog lkRest _ a w → _› _ _ ?_
    exact lk_after _ _ _ _ _ _ _ _ _ _ _ _ _ _ _ _ _ _ _ _ _ _ _ _ _ _ _ _ _ _ _ _ _ _ _ _ _ _ _ _ _ _ _ _ _ _ _ _ _ _ _ _ _ _ _ _ _ _ _ _ W p first k bl (1024 * k) c N1 (N1 + 1) (z0 + 1) (z0 + 1 + 1) D ((z0 + 1) :: (z0 + 1 + 1) :: S) b _ _ _ _ ss (by omega) rfl hro2 (by omega) hcap hLI.half hGB hIG hDf w1 w2 (by omega) (by omega) (by omega) (by omega) (by omega) (by omega) (by simp) (by simp) (fun V ss' hKV hIV => FINR.out W V D _ ss' LK hD hLI.keep hKV hIV)
#print axioms lookAt_any
end Go.Proofs.Ytgpbmccjcjoijaa
