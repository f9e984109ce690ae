/-
  The walks of a region's read, write and erase.
-/
import Derived.Test.YtgpbmccjcjoijaaJd
import Derived.Test.YtgpbmccjcjoijaaFf
import Derived.Test.YtgpbmccjcjoijaaJ6
namespace Go.Proofs.Ytgpbmccjcjoijaa
open Go.RowKit

theorem part_next (cs : List Int) (first i : Nat) : (cs.drop (1024 * first)).take (1024 * (i + 1)) = (cs.drop (1024 * first)).take (1024 * i) ++ sec cs (first + i) := by
  unfold sec
  rw [show 1024 * (i + 1) = 1024 * i + 1024 from by omega, List.take_add, List.drop_drop]
  congr 3
  omega
theorem part_len {cs : List Int} {n first k : Nat} (h : cs.length = 1024 * n) (hk : first + k ≤ n) : (part cs first k).length = 1024 * k := by
  unfold part; simp [h]; omega
theorem part_oct {cs : List Int} (h : Oct cs) (first k : Nat) : Oct (part cs first k) := (h.drop _).take _

set_option linter.unusedSimpArgs false in
set_option maxHeartbeats 4000000 in
set_option maxRecDepth 100000 in
theorem rread_any {w : World} {p B n cap : Nat} {s : FS} (h : IsS w p B n cap s) (ho : s.of = false) (first k : Nat) (hf : first + k ≤ n) :
    Calls Try.prog 52 #[.agg #[.pointer (some ⟨p, 0, none⟩), .int .i64 first, .int .i64 k]] w fun e w' => (∃ a c, e = .returned (.tuple #[.slice a (1024 * k) c, .int .i64 0]) ∧ Told w w' a (1024 * k) c (part s.cs first k)) ∧ Below w.heap.size w w' := by
  obtain ⟨i0, hi, hz0, hz1, hz2⟩ := info_parts info8
  have RD : Hid (∀ z, Below w.heap.size w z → ∀ j : Nat, j < n → Calls Try.prog 43 #[.pointer (some ⟨p, 0, none⟩), .int .i64 j] z fun e w' => (∃ a c, e = .returned (.tuple #[.slice a 1024 c, .int .i64 0]) ∧ Told z w' a 1024 c (sec s.cs j)) ∧ Below z.heap.size z w') := fun z hz j hj => read_ok (h.next hz) j hj ho
  have hn2 := h.n2
  have hlen := h.len
  have hoct : Hid (Oct s.cs) := h.oct
  have h0 := h.lt.1
  clear h ho
  obtain ⟨C, st, ar, lf, of⟩ := s
  dsimp only at *
  clear st ar lf of
  have gf : (first : Int) + k ≤ n := by omega
  have gn : (n : Int) ≤ 64 := by omega
  go_enter Try.func52, Try.ntmps52
  go_wp2_with fail
  have B1 : Below w.heap.size w (w.alloc (.cells #[.pointer (some ⟨p, 0, none⟩), .int .i64 (first : Int), .int .i64 (k : Int)] 62)) := Below.al (Below.refl _ _) _
  have X1 : (w.alloc (.cells #[.pointer (some ⟨p, 0, none⟩), .int .i64 (first : Int), .int .i64 (k : Int)] 62)).heap[w.heap.size]? = some (.cells #[.pointer (some ⟨p, 0, none⟩), .int .i64 (first : Int), .int .i64 (k : Int)] 62 (0, 0)) := heap_alloc_new w _
  generalize (w.alloc (.cells #[.pointer (some ⟨p, 0, none⟩), .int .i64 (first : Int), .int .i64 (k : Int)] 62)) = X at *
  have ZX : w.heap.size < X.heap.size := lt_of_heap X1
  go_loopw [4, 10] (fun v u wr => ∃ i : Nat, i ≤ k ∧ u = .int .i64 i ∧ Below X.heap.size X wr ∧ wr.ownsRow X.heap.size 5 1 v (1024 * i) (((C.drop (1024 * first)).take (1024 * i)).map (Value.int .u8)))
    (fun _ u _ => k - (intOf u).toNat)
  case atStart => exact ⟨0, Nat.zero_le _, rfl, Below.refl _ _, by simp, .inl ⟨rfl, rfl⟩⟩
  case round =>
    obtain ⟨i, hi6, rfl, hb, hown⟩ := hrel
    have OWN : Hid (wr.ownsRow X.heap.size 5 1 u4 (1024 * i) (((C.drop (1024 * first)).take (1024 * i)).map (Value.int .u8))) := hown
    clear hown
    have hbw : Below w.heap.size w wr := B1.trans (hb.mono (Nat.le_of_lt ZX))
    have Y1 : wr.heap[w.heap.size]? = _ := (hb.block _ ZX).trans X1
    by_cases hlt : i < k
    · have g : (i : Int) < (k : Int) := by omega
      have CR := RD.out wr hbw (first + i) (by omega)
      have hl : (sec C (first + i)).length = 1024 := sec_len hlen (by omega)
      have TN : Hid ((C.drop (1024 * first)).take (1024 * (i + 1)) = (C.drop (1024 * first)).take (1024 * i) ++ sec C (first + i)) := part_next C first i
      have c0 : wr.cell? ⟨w.heap.size, 0, none⟩ = some (.pointer (some ⟨p, 0, none⟩)) := by rw [cell_of_row wr _ _ _ _ _ Y1]; rfl
      have c1 : wr.cell? ⟨w.heap.size, 1, none⟩ = some (.int .i64 (first : Int)) := by rw [cell_of_row wr _ _ _ _ _ Y1]; rfl
      have e1 : ((first + i : Nat) : Int) = (first : Int) + i := by omega
      rw [e1] at CR
      clear RD e1 Y1 X1
      go_wp2_with fail
      with_reducible refine CR.mono ?_
      rintro e z ⟨⟨a, c, rfl, ht⟩, hz⟩
      clear CR
      obtain ⟨gb, rfl, hgb, hfz⟩ := ht.own (by decide)
      have hb2 : Below X.heap.size X z := Below.andThen hb hz
      have OZ : Hid (z.ownsRow X.heap.size 5 1 u4 (1024 * i) (((C.drop (1024 * first)).take (1024 * i)).map (Value.int .u8))) := own_next OWN.out hz
      have NW := ht.row.cells
      have o1 : ∀ v ∈ (sec C (first + i)).map (Value.int .u8), v.oneCell' = true := oneU8 _
      clear OWN hz ht hfz hgb
      go_wp2_with (at_builtin; refine wpList_append_own _ rfl _ _ 33 rfl X.heap.size 5 i0 (.int .u8 0) 1 1 Try.underlying33 hi hz0 hz1 hz2 rfl (by decide) _ _ _ rfl OZ.out ⟨gb, 0, none⟩ 1024 c ((sec C (first + i)).map (Value.int .u8)) rfl (by rw [List.length_map, hl]) NW o1 (by unfold maxLen; omega) (by omega) hb2.size ?_)
      intro v' w2 hown' hgrow _
      have hb3 : Below X.heap.size X w2 := hb2.grown hgrow hb2.size (fun j hj => (OZ.out.lt j hj).1)
      rw [← List.map_drop, ← List.map_take, ← List.map_append, ← TN.out] at hown'
      have OWN2 : Hid (w2.ownsRow X.heap.size 5 1 v' (1024 * (i + 1)) (((C.drop (1024 * first)).take (1024 * (i + 1))).map (Value.int .u8))) := hown'
      clear hown' hgrow NW o1 OZ TN hb2
      go_wp2_with fail
      exact ⟨⟨i + 1, by omega, by go_num, hb3, OWN2.out⟩, by simp [intOf]; omega⟩
    · obtain rfl : i = k := by omega
      have O2 := OWN.out
      obtain ⟨a, cap, rfl, ht⟩ := own_told O2 (part_oct hoct.out first i) (part_len hlen hf)
      have HT : Hid (Told w wr a (1024 * i) cap (part C first i)) := ⟨ht.row, ht.le, ht.max, fun hp => by obtain ⟨g, e1, e2, e3⟩ := ht.own hp; exact ⟨g, e1, by omega, e3⟩⟩
      clear RD O2 OWN ht Y1 X1
      go_wp2_with fail
      go_ret2
      exact ⟨⟨_, _, rfl, HT.out⟩, hbw⟩

set_option linter.unusedSimpArgs false in
set_option maxHeartbeats 4000000 in
set_option maxRecDepth 100000 in
theorem rerase_any {w : World} {p B n cap : Nat} {s : FS} (h : IsS w p B n cap s) (m : Nat) (hm : s.Le m) (hm2 : m ≤ 900000000) (first k : Nat) (hf : first + k ≤ n) :
    Calls Try.prog 72 #[.agg #[.pointer (some ⟨p, 0, none⟩), .int .i64 first, .int .i64 k]] w fun e w' => e = .returned (.int .i64 (regE n first k 0 s).1) ∧ IsS w' p B n cap (regE n first k 0 s).2 ∧ Kp [p, B] w w' := by
  have hn2 := h.n2
  have h0 := h.lt
  have gf : (first : Int) + k ≤ n := by omega
  have gn : (n : Int) ≤ 64 := by omega
  have B1 : Below w.heap.size w (w.alloc (.cells #[.pointer (some ⟨p, 0, none⟩), .int .i64 (first : Int), .int .i64 (k : Int)] 62)) := Below.al (Below.refl _ _) _
  have X1 : (w.alloc (.cells #[.pointer (some ⟨p, 0, none⟩), .int .i64 (first : Int), .int .i64 (k : Int)] 62)).heap[w.heap.size]? = some (.cells #[.pointer (some ⟨p, 0, none⟩), .int .i64 (first : Int), .int .i64 (k : Int)] 62 (0, 0)) := heap_alloc_new w _
  have HS := h.next B1
  clear h
  obtain ⟨F, hF⟩ : ∃ F, Hid (regE n first k 0 s = F) := ⟨_, rfl⟩
  rw [hF.out]
  go_enter Try.func72, Try.ntmps72
  go_wp2_with fail
  generalize (w.alloc (.cells #[.pointer (some ⟨p, 0, none⟩), .int .i64 (first : Int), .int .i64 (k : Int)] 62)) = X at *
  have ZX : w.heap.size < X.heap.size := lt_of_heap X1
  go_loopw [7] (fun u wr => ∃ (i : Nat) (t : FS), i ≤ k ∧ u = .int .i64 i ∧ Kp [p, B] X wr ∧ IsS wr p B n cap t ∧ t.Le (m + i) ∧ regE n first (k - i) i t = F)
    (fun u _ => k - (intOf u).toNat)
  case atStart => exact ⟨0, s, Nat.zero_le _, rfl, Kp.refl _ _, HS, hm, hF.out⟩
  case round =>
    obtain ⟨i, t, hi6, rfl, hK, hT, hle, hFt⟩ := hrel
    have HFt : Hid (regE n first (k - i) i t = F) := hFt
    have HK : Hid (Kp [p, B] X wr) := hK
    have Y1 : wr.heap[w.heap.size]? = _ := (hK.block _ ZX (by simp; omega)).trans X1
    by_cases hlt : i < k
    · have g : (i : Int) < (k : Int) := by omega
      have CE := erase_any hT (hle.ok (by omega)) ((first + i : Nat) : Int)
      have LE2 := hle.erase n ((first + i : Nat) : Int)
      have c0 : wr.cell? ⟨w.heap.size, 0, none⟩ = some (.pointer (some ⟨p, 0, none⟩)) := by rw [cell_of_row wr _ _ _ _ _ Y1]; rfl
      have c1 : wr.cell? ⟨w.heap.size, 1, none⟩ = some (.int .i64 (first : Int)) := by rw [cell_of_row wr _ _ _ _ _ Y1]; rfl
      have e1 : ((first + i : Nat) : Int) = (first : Int) + i := by omega
      obtain ⟨E, t', he⟩ : ∃ E t', Hid (t.erase n ((first + i : Nat) : Int) = (E, t')) := ⟨_, _, rfl⟩
      rw [he.out] at CE LE2
      rw [e1] at CE
      have RS : Hid ((if E = 0 then regE n first (k - (i + 1)) (i + 1) t' else (E, t')) = F) := by
        show _ = _
        rw [← HFt.out, show k - i = (k - (i + 1)) + 1 from by omega, regE_succ n first _ i t he.out]
      clear e1 Y1 X1 hK hT HFt hFt he hF
      by_cases hE : E = 0
      · subst hE
        go_wp2_with fail
        with_reducible refine CE.mono ?_
        rintro e z ⟨rfl, hz, hk⟩
        clear CE
        have HZ : Hid (IsS z p B n cap t') := hz
        clear hz
        go_wp2_with fail
        exact ⟨⟨i + 1, t', by omega, by go_num, HK.out.trans hk, HZ.out, LE2.more (by omega), by simpa using RS.out⟩, by simp [intOf]; omega⟩
      · have g1 : (E != 0) = true := by simp [hE]
        have RF : Hid (F = (E, t')) := by have := RS.out; rw [if_neg hE] at this; exact this.symm
        clear RS hE
        go_wp2_with fail
        with_reducible refine CE.mono ?_
        rintro e z ⟨rfl, hz, hk⟩
        clear CE
        have HZ : Hid (IsS z p B n cap t') := hz
        clear hz
        go_wp2_with fail
        go_ret
        exact ⟨by rw [RF.out]; rfl, by rw [RF.out]; exact HZ.out, (Kp.of B1).trans ((HK.out).trans hk)⟩
    · obtain rfl : i = k := by omega
      have RF : Hid (F = (0, t)) := by have := HFt.out; rw [Nat.sub_self] at this; exact this.symm
      have HT2 : Hid (IsS wr p B n cap t) := hT
      clear hT hK Y1 X1 HFt hFt hF
      go_wp2_with fail
      go_ret
      exact ⟨by rw [RF.out]; rfl, by rw [RF.out]; exact HT2.out, (Kp.of B1).trans HK.out⟩
#print axioms rread_any
#print axioms rerase_any
end Go.Proofs.Ytgpbmccjcjoijaa
