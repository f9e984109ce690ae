/-
  The walk of a region's write.
-/
import Derived.Test.YtgpbmccjcjoijaaJ8
namespace Go.Proofs.Ytgpbmccjcjoijaa
open Go.RowKit

theorem Row.kp {w w' : World} {a : Option Addr} {n : Nat} {zs : List Int} {S : List Nat} (h : Row w a n zs) (k : Kp S w w') (hn : ∀ b off, a = some ⟨b, off, none⟩ → b ∉ S) : Row w' a n zs where
  size := h.size
  oct := h.oct
  at_ := fun hp => by
    obtain ⟨b, off, e, hc⟩ := h.at_ hp
    exact ⟨b, off, e, fun i hi => k.cell (hc i hi) (hn b off e)⟩
theorem list4 {b : List Int} (h : 4 ≤ b.length) : b = b.getD 0 0 :: b.getD 1 0 :: b.getD 2 0 :: b.getD 3 0 :: b.drop 4 := by
  match b, h with
  | _ :: _ :: _ :: _ :: _, _ => rfl
/-- A word out of bytes. -/
theorem copy4_run (ty : TypeId) (W : World) (a : Addr) (len cap : Nat) (b : List Int) (hr : Row W (some a) len b) (h4 : 4 ≤ len) :
    (Builtin.copy_ #[33, 33] ty #[.slice (some ⟨W.heap.size, 0, none⟩) 4 4, .slice (some a) len cap]).run Try.prog (W.alloc (.cells #[.int .u8 0, .int .u8 0, .int .u8 0, .int .u8 0] 53)) = .ok (.int .i64 4) (W.alloc (.cells (w4 (b.getD 0 0) (b.getD 1 0) (b.getD 2 0) (b.getD 3 0)) 53)) := by
  have hR := hr.next (Below.al (Below.refl _ _) (.cells #[.int .u8 0, .int .u8 0, .int .u8 0, .int .u8 0] 53))
  obtain ⟨bl, off, e, _⟩ := hr.at_ (by omega)
  obtain rfl : a = ⟨bl, off, none⟩ := by simpa using e
  have hz := hr.size
  have hT : (b.take 4).length = 4 := by simp; omega
  have hR4 := hR.sub 0 4 (by omega)
  simp only [List.drop_zero, Nat.add_zero] at hR4
  have := run_copy_row (P := Try.prog) (W.alloc (.cells #[.int .u8 0, .int .u8 0, .int .u8 0, .int .u8 0] 53)) 33 33 ty 5 W.heap.size 0 4 4 ⟨bl, off, none⟩ len cap _ _ ((b.take 4).map (Value.int .u8)) Try.underlying33 info8s (heap_alloc_new W _) (by rw [List.length_map, hT]; show 4 = min len 4; omega) hR4.cells (by rw [List.length_map, hT]; decide) (oneU8 _)
  rw [this, World.setRow_alloc_new]
  have e4 := list4 (b := b) (by omega)
  have ht : b.take 4 = [b.getD 0 0, b.getD 1 0, b.getD 2 0, b.getD 3 0] := by
    conv => lhs; rw [e4]
    simp
  rw [ht]
  rfl

set_option linter.unusedSimpArgs false in
set_option maxHeartbeats 4000000 in
set_option maxRecDepth 100000 in
theorem rwrite_any {w : World} {p B n cap : Nat} {s : FS} (h : IsS w p B n cap s) (m : Nat) (hm : s.Le m) (hm2 : m ≤ 900000000) (first k at_ : Nat) (a : Option Addr) (len cap2 : Nat) (b : List Int) (hr : Row w a len b) (hl4 : len % 4 = 0) (hcap : len ≤ cap2) (hn : ∀ b off, a = some ⟨b, off, none⟩ → b ∉ [p, B]) (hf : first + k ≤ n) (hat : at_ + len ≤ 1024 * k) :
    Calls Try.prog 66 #[.agg #[.pointer (some ⟨p, 0, none⟩), .int .i64 first, .int .i64 k], .int .i64 at_, .slice a len cap2] w fun e w' => e = .returned (.int .i64 (regW n first b at_ s).1) ∧ IsS w' p B n cap (regW n first b at_ s).2 ∧ Kp [p, B] w w' := by
  have hn2 := h.n2
  have h0 := h.lt
  have hz := hr.size
  have gf : (first : Int) + k ≤ n := by omega
  have gn : (n : Int) ≤ 64 := by omega
  have B1 : Below w.heap.size w (w.alloc (.cells #[.pointer (some ⟨p, 0, none⟩), .int .i64 (first : Int), .int .i64 (k : Int)] 62)) := Below.al (Below.refl _ _) _
  have X1 : (w.alloc (.cells #[.pointer (some ⟨p, 0, none⟩), .int .i64 (first : Int), .int .i64 (k : Int)] 62)).heap[w.heap.size]? = some (.cells #[.pointer (some ⟨p, 0, none⟩), .int .i64 (first : Int), .int .i64 (k : Int)] 62 (0, 0)) := heap_alloc_new w _
  have HS := h.next B1
  have HR := hr.next B1
  clear h hr
  obtain ⟨F, hF⟩ : ∃ F, Hid (regW n first b at_ s = F) := ⟨_, rfl⟩
  rw [hF.out]
  go_enter Try.func66, Try.ntmps66
  go_wp2_with fail
  generalize (w.alloc (.cells #[.pointer (some ⟨p, 0, none⟩), .int .i64 (first : Int), .int .i64 (k : Int)] 62)) = X at *
  have ZX : w.heap.size < X.heap.size := lt_of_heap X1
  go_loopw [1, 2] (fun u v wr => ∃ (a' : Option Addr) (l' c' : Nat) (b' : List Int) (q : Nat) (t : FS), v = .slice a' l' c' ∧ u = .int .i64 q ∧ q + l' = at_ + len ∧ l' % 4 = 0 ∧ l' ≤ c' ∧ Row wr a' l' b' ∧ (∀ b off, a' = some ⟨b, off, none⟩ → b ∉ [p, B]) ∧ Kp [p, B] X wr ∧ IsS wr p B n cap t ∧ t.Le (m + (len - l')) ∧ l' ≤ len ∧ regW n first b' q t = F)
    (fun _ v _ => match v with | .slice _ l _ => l | _ => 0)
  case atStart => exact ⟨a, len, cap2, b, at_, s, rfl, rfl, rfl, hl4, hcap, HR, hn, Kp.refl _ _, HS, hm.more (by omega), Nat.le_refl _, hF.out⟩
  case round =>
    obtain ⟨a', l', c', b', q, t, rfl, rfl, hq, hq4, hc', hR, hn', hK, hT, hle, hll, hFt⟩ := hrel
    have HFt : Hid (regW n first b' q t = F) := hFt
    have HK : Hid (Kp [p, B] X wr) := hK
    have Y1 : wr.heap[w.heap.size]? = _ := (hK.block _ ZX (by simp; omega)).trans X1
    have hz' := hR.size
    by_cases hlt : 0 < l'
    · have h4 : 4 ≤ l' := by omega
      have g : (0 : Int) < (l' : Int) := by omega
      obtain ⟨bl, off, rfl, hcA⟩ := hR.at_ hlt
      have hq1 : q + l' ≤ 1024 * k := by omega
      have hqs : q / 1024 < k := by omega
      have CP := copy4_run 3 wr ⟨bl, off, none⟩ l' c' b' hR h4
      have O4 : Oct [b'.getD 0 0, b'.getD 1 0, b'.getD 2 0, b'.getD 3 0] := fun x hx => by
        simp only [List.mem_cons, List.not_mem_nil, or_false] at hx
        rcases hx with rfl | rfl | rfl | rfl <;> exact hR.oct.getD _
      have e4 := list4 (b := b') (by omega)
      have hR4 : Row wr (some ⟨bl, off + 4, none⟩) (l' - 4) (b'.drop 4) := by
        have := hR.sub 4 (l' - 4) (by omega)
        rwa [List.take_of_length_le (by simp; omega)] at this
      have BW : Below wr.heap.size wr (wr.alloc (.cells (w4 (b'.getD 0 0) (b'.getD 1 0) (b'.getD 2 0) (b'.getD 3 0)) 53)) := Below.al (Below.refl _ _) _
      have CW := write_any (hT.next BW) (hle.ok (by omega)) ((first + q / 1024 : Nat) : Int) ((q % 1024 / 4 : Nat) : Int) (b'.getD 0 0) (b'.getD 1 0) (b'.getD 2 0) (b'.getD 3 0) O4
      have LE2 := hle.write n ((first + q / 1024 : Nat) : Int) ((q % 1024 / 4 : Nat) : Int) (b'.getD 0 0) (b'.getD 1 0) (b'.getD 2 0) (b'.getD 3 0)
      obtain ⟨E, t', he⟩ : ∃ E t', Hid (t.write n ((first + q / 1024 : Nat) : Int) ((q % 1024 / 4 : Nat) : Int) (b'.getD 0 0) (b'.getD 1 0) (b'.getD 2 0) (b'.getD 3 0) = (E, t')) := ⟨_, _, rfl⟩
      rw [he.out] at CW LE2
      have RS : Hid ((if E = 0 then regW n first (b'.drop 4) (q + 4) t' else (E, t')) = F) := by
        show _ = _
        rw [← HFt.out]
        conv => rhs; rw [e4]
        rw [regW_cons n first q t _ _ _ _ _ he.out]
      have c0 : wr.cell? ⟨w.heap.size, 0, none⟩ = some (.pointer (some ⟨p, 0, none⟩)) := by rw [cell_of_row wr _ _ _ _ _ Y1]; rfl
      have c1 : wr.cell? ⟨w.heap.size, 1, none⟩ = some (.int .i64 (first : Int)) := by rw [cell_of_row wr _ _ _ _ _ Y1]; rfl
      have d0 := fun o => ((Kp.refl [] wr).al o).cell c0 (by simp)
      have d1 := fun o => ((Kp.refl [] wr).al o).cell c1 (by simp)
      have e1 : ((first + q / 1024 : Nat) : Int) = (first : Int) + (q : Int) / 1024 := by omega
      have e2 : ((q % 1024 / 4 : Nat) : Int) = (q : Int) % 1024 / 4 := by omega
      rw [e1, e2] at CW
      have hqb : (q : Int) ≤ 70000 := by omega
      have HK2 : Hid (Kp [p, B] w wr) := (Kp.of B1).trans HK.out
      have KBW : Hid (Kp [p, B] wr (wr.alloc (.cells (w4 (b'.getD 0 0) (b'.getD 1 0) (b'.getD 2 0) (b'.getD 3 0)) 53))) := Kp.of BW
      have HR4 : Hid (Row wr (some ⟨bl, off + 4, none⟩) (l' - 4) (b'.drop 4)) := hR4
      have HN : Hid (bl ∉ [p, B]) := hn' bl off rfl
      clear e1 e2 Y1 X1 hK hT HFt hFt he hF hcA e4 O4 BW hR4 hR hn' B1
      generalize b'.getD 0 0 = y0 at *
      generalize b'.getD 1 0 = y1 at *
      generalize b'.getD 2 0 = y2 at *
      generalize b'.getD 3 0 = y3 at *
      by_cases hE : E = 0
      · subst hE
        by_cases hc4 : c' = 4
        · subst hc4
          obtain rfl : l' = 4 := by omega
          go_wp2_with fail
          with_reducible refine CW.mono ?_
          rintro e z ⟨rfl, hz, hk⟩
          clear CW
          have HZ : Hid (IsS z p B n cap t') := hz
          have HRz : Hid (Row z (some ⟨bl, off, none⟩) 0 (b'.drop 4)) := ⟨by simp; omega, HR4.out.oct, fun h => absurd h (by decide)⟩
          clear hz
          go_wp2_with fail
          exact ⟨⟨_, 0, _, b'.drop 4, q + 4, t', rfl, by go_num, by omega, by omega, by omega, HRz.out, fun b off h => by cases h; exact HN.out, (HK.out.trans KBW.out).trans hk, HZ.out, LE2.more (by omega), by omega, by simpa using RS.out⟩, by show 0 < 4; omega⟩
        · have gc : (4 : Int) ≤ c' := by omega
          have gl : (4 : Int) ≤ l' := by omega
          go_wp2_with fail
          with_reducible refine CW.mono ?_
          rintro e z ⟨rfl, hz, hk⟩
          clear CW
          have HZ : Hid (IsS z p B n cap t') := hz
          have HRz : Hid (Row z (some ⟨bl, off + 4, none⟩) (l' - 4) (b'.drop 4)) := HR4.out.kp (KBW.out.trans hk) (fun b off h => by cases h; exact HN.out)
          clear hz
          go_wp2_with fail
          exact ⟨⟨_, l' - 4, _, b'.drop 4, q + 4, t', rfl, by go_num, by omega, by omega, by omega, HRz.out, fun b off h => by cases h; exact HN.out, (HK.out.trans KBW.out).trans hk, HZ.out, LE2.more (by omega), by omega, by simpa using RS.out⟩, by show l' - 4 < l'; omega⟩
      · have g1 : (E != 0) = true := by simp [hE]
        have RF : Hid (F = (E, t')) := by have := RS.out; rw [if_neg hE] at this; exact this.symm
        clear RS hE
        go_wp2_with fail
        with_reducible refine CW.mono ?_
        rintro e z ⟨rfl, hz, hk⟩
        clear CW
        have HZ : Hid (IsS z p B n cap t') := hz
        clear hz
        go_wp2_with fail
        go_ret
        exact ⟨by rw [RF.out]; rfl, by rw [RF.out]; exact HZ.out, (HK2.out.trans KBW.out).trans hk⟩
    · obtain rfl : l' = 0 := by omega
      have hb0 : b' = [] := hR.nil
      subst hb0
      have RF : Hid (F = (0, t)) := HFt.out.symm
      have HT2 : Hid (IsS wr p B n cap t) := hT
      clear hT hK Y1 X1 HFt hFt hF hR
      go_wp2_with fail
      go_ret
      exact ⟨by rw [RF.out]; rfl, by rw [RF.out]; exact HT2.out, (Kp.of B1).trans HK.out⟩
#print axioms rwrite_any
end Go.Proofs.Ytgpbmccjcjoijaa
