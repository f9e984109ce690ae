/-
  The walk of Write.
-/
import Derived.Test.YtbjbnfhmehkkpaaDt
import Derived.Laws.BitsAllLaws
import Derived.Laws.OwnMore
import Derived.Deep.RegionLaw
namespace Go.Proofs.Ytbjbnfhmehkkpaa
open Go.RowKit

/-- Bytes as two digits each. -/
def hexL : List Int → List Int
  | [] => []
  | z :: zs => digZ (z / 16) :: digZ (z % 16) :: hexL zs
theorem hexL_snoc : ∀ (zs : List Int) (z : Int), hexL (zs ++ [z]) = hexL zs ++ [digZ (z / 16), digZ (z % 16)]
  | [], z => by simp [hexL]
  | y :: zs, z => by simp [hexL, hexL_snoc zs z]
theorem hexL_length : ∀ zs : List Int, (hexL zs).length = 2 * zs.length
  | [] => rfl
  | z :: zs => by simp [hexL, hexL_length zs]; omega
theorem hexL_oct : ∀ zs : List Int, Oct zs → Oct (hexL zs)
  | [], _ => fun n hn => by simp [hexL] at hn
  | z :: zs, h => fun n hn => by
    have hz := h z (by simp)
    have h1 := digZ_bd (z / 16) (by omega) (by omega)
    have h2 := digZ_bd (z % 16) (by omega) (by omega)
    have ih := hexL_oct zs (fun n hn => h n (by simp [hn]))
    simp only [hexL, List.mem_cons] at hn
    rcases hn with rfl | rfl | hn
    · omega
    · omega
    · exact ih n hn
/-- What stands ahead of the bytes. -/
def headL (id : Int) : List Int := [digZ (id / 256), digZ (id / 16 % 16), digZ (id % 16), 35]
/-- A right frame's text. -/
def wrL (id n : Int) (ds : List Int) (r : Bool) : List Int := headL id ++ (if r then [82, digZ n] else hexL (ds.take n.toNat))
/-- What Write tells. -/
def wrS (id n : Int) (ds : List Int) (r : Bool) : List Int := if rightB id n ds r then wrL id n ds r else []
def wrE (id n : Int) (ds : List Int) (r : Bool) : Int := if rightB id n ds r then 0 else 30

theorem headL_oct (id : Int) (h0 : 0 ≤ id) (h1 : id ≤ 2047) : Oct (headL id) := by
  have a := digZ_bd (id / 256) (by omega) (by omega)
  have b := digZ_bd (id / 16 % 16) (by omega) (by omega)
  have c := digZ_bd (id % 16) (by omega) (by omega)
  intro n hn
  simp [headL] at hn
  omega
theorem wrL_oct (id n : Int) (ds : List Int) (r : Bool) (h0 : 0 ≤ id) (h1 : id ≤ 2047) (hn : 0 ≤ n) (h8 : n ≤ 8) (ho : Oct ds) : Oct (wrL id n ds r) := by
  unfold wrL
  refine (headL_oct id h0 h1).app ?_
  cases r
  · exact hexL_oct _ (ho.take _)
  · have := digZ_bd n hn (by omega)
    intro x hx
    simp at hx
    omega

theorem and15w (x : Int) (h0 : 0 ≤ x) (h1 : x < 65536) : bits .and .u16 x 15 = x % 16 := by
  obtain ⟨m, rfl⟩ := Int.eq_ofNat_of_zero_le h0
  have h := u16_and_nat m 15 (by omega) (by decide)
  rw [show ((15 : Nat) : Int) = (15 : Int) from rfl] at h
  rw [h, show m &&& 15 = m % 16 from Nat.and_two_pow_sub_one_eq_mod m 4]; omega
theorem and15 (x : Int) (h0 : 0 ≤ x) (h1 : x < 256) : bits .and .u8 x 15 = x % 16 := by
  obtain ⟨m, rfl⟩ := Int.eq_ofNat_of_zero_le h0
  have h := u8_and_nat m 15 (by omega) (by decide)
  rw [show ((15 : Nat) : Int) = (15 : Int) from rfl] at h
  rw [h, show m &&& 15 = m % 16 from Nat.and_two_pow_sub_one_eq_mod m 4]; omega

theorem own_drew {w : World} {B : Nat} {e : TypeId} {size : Nat} {v : Value} {k : Nat} {xs : List Value} (h : w.ownsRow B e size v k xs) : w.drew.ownsRow B e size v k xs := h
theorem own_lit (w : World) (C : Array Value) (zs : List Int) (n : Nat) (hn : C.size = n) (hm : n ≤ maxLen) (hC : C.toList = zs.map (Value.int .u8)) : (w.alloc (.cells C 5)).ownsRow w.heap.size 5 1 (.slice (some ⟨w.heap.size, 0, none⟩) n n) n (zs.map (Value.int .u8)) := by
  rw [← hC]
  exact World.ownsRow_lit w C n (Nat.le_refl _) hm (by omega)

theorem own_next {w w' : World} {B : Nat} {e : TypeId} {size : Nat} {v : Value} {k : Nat} {xs : List Value} (h : w.ownsRow B e size v k xs) (hb : Below w.heap.size w w') : w'.ownsRow B e size v k xs := by
  refine ⟨h.1, ?_⟩
  rcases h.2 with h' | ⟨g, cap, cur, e1, e2, e3, e4⟩
  · exact .inl h'
  · have hlt : g < w.heap.size := (Array.getElem?_eq_some_iff.1 e3).1
    exact .inr ⟨g, cap, cur, e1, e2, (hb.block g hlt).trans e3, e4⟩

/-- What is of another type than what is written to stays. -/
theorem kept_other {w w' : World} {B : Nat} {v : Value} {k : Nat} {xs : List Value} (own : w.ownsRow B 5 1 v k xs) (hg : w.grownBy w' v.ownBlock) {b : Nat} {C : Array Value} {t : TypeId} {fr : Nat × Nat} (hb : w.heap[b]? = some (.cells C t fr)) (ht : t ≠ 5) :
    w'.heap[b]? = some (.cells C t fr) := by
  have hlt : b < w.heap.size := (Array.getElem?_eq_some_iff.1 hb).1
  refine (hg.block b hlt ?_).trans hb
  rcases own.2 with ⟨rfl, _⟩ | ⟨g, cap, cur, rfl, _, e3, _⟩
  · simp [Value.ownBlock]
  · simp only [Value.ownBlock]
    intro h
    cases h
    rw [e3] at hb
    injection hb with hb
    injection hb with _ h2 _
    exact ht h2.symm

/-- Bytes put behind bytes that are the call's own, as one step of a region that draws its order. -/
theorem step_append_bytes {ops : Array Oper} {o : Oper} {a : Act} {w : World} {K : Act → World → Prop} {Q : Exit → Act → World → Prop} {E : Prop} (hgd : o.guard = none) (s x : Operand)
    (ho : o.op = .call { callee := .builtin .append, args := #[s, x], argTypes := #[23, 23] }) (base : Nat) (v : Value) (n : Nat) (zs : List Int) (hs : a.eval s = v) (hown : w.ownsRow base 5 1 v n (zs.map (Value.int .u8)))
    (ad : Addr) (m : Nat) (news : List Int) (hx : a.eval x = .slice (some ad) m m) (hl : news.length = m) (hnews : ∀ j u, (news.map (Value.int .u8))[j]? = some u → w.cell? (ad.add j) = some u) (h63 : n + m ≤ 1000000) (hbase : base ≤ w.heap.size)
    (h : ∀ v' w', w'.ownsRow base 5 1 v' (n + m) ((zs ++ news).map (Value.int .u8)) → w.grownBy w' v.ownBlock → K (a.put o.dst v') w') :
    if Region.wanted o (yielded ops a.tmps) = true then Oper.wp Try.prog o a w K Q else E := by
  have hw : Region.wanted o (yielded ops a.tmps) = true := by simp [Region.wanted, hgd]
  rw [if_pos hw]
  obtain ⟨i0, hi, hz0, hz1, hz2⟩ := info_parts info8
  refine wp_append_own (P := Try.prog) w s x 23 ho base 5 i0 (.int .u8 0) 1 1 Try.underlying23 hi hz0 hz1 hz2 rfl (by decide) v n _ hs hown ad m m _ hx (by simp [hl]) hnews (fun u hu => by obtain ⟨_, _, rfl⟩ := List.mem_map.1 hu; rfl) (by unfold maxLen; omega) (by omega) hbase ?_
  intro v' w' h1 h2 _
  exact h v' w' (by rw [List.map_append]; exact h1) h2

theorem cells_two (w : World) (T : TypeId) (a b : Int) : ∀ j u, ([a, b].map (Value.int .u8))[j]? = some u → (w.alloc (.cells #[.int .u8 a, .int .u8 b] T)).drew.cell? ((⟨w.heap.size, 0, none⟩ : Addr).add j) = some u := by
  intro j u hj
  match j, hj with
  | 0, hj => simp at hj; subst hj; simp [Addr.add, go_sem]
  | 1, hj => simp at hj; subst hj; simp [Addr.add, go_sem]

/-- A frame's bytes, where its cells lie. -/
theorem frC_byte (id n d0 d1 d2 d3 d4 d5 d6 d7 : Int) (r : Bool) (i : Nat) (hi : i < 8) : (frC id n d0 d1 d2 d3 d4 d5 d6 d7 r)[2 + i]? = some (.int .u8 (zb [d0, d1, d2, d3, d4, d5, d6, d7] i)) := by
  have h9 : i = 0 ∨ i = 1 ∨ i = 2 ∨ i = 3 ∨ i = 4 ∨ i = 5 ∨ i = 6 ∨ i = 7 := by omega
  rcases h9 with rfl | rfl | rfl | rfl | rfl | rfl | rfl | rfl <;> rfl

theorem carried_mem (id d0 d1 d2 d3 d4 d5 d6 d7 : Int) (n : Nat) (w : World) (h8 : n ≤ 8) :
    Calls Try.prog 24 #[frV id n d0 d1 d2 d3 d4 d5 d6 d7 false] w fun e w' => ∃ g, e = .returned (.slice (some ⟨g, 2, none⟩) n 8) ∧ w'.heap[g]? = some (.cells (frC id n d0 d1 d2 d3 d4 d5 d6 d7 false) 26 (0, 0)) ∧ Below w.heap.size w w' := by
  refine (carried_data id d0 d1 d2 d3 d4 d5 d6 d7 n w h8).mono ?_
  rintro e w' ⟨rfl, rfl⟩
  exact ⟨_, rfl, heap_new _ _, Below.al (Below.refl _ _) _⟩

set_option maxHeartbeats 4000000 in
set_option maxRecDepth 100000 in
theorem write_ask (id n d0 d1 d2 d3 d4 d5 d6 d7 : Int) (w : World) (ho : Oct [d0, d1, d2, d3, d4, d5, d6, d7]) (hid : 0 ≤ id) (hq : rightB id n [d0, d1, d2, d3, d4, d5, d6, d7] true = true) :
    Calls Try.prog 12 #[frV id n d0 d1 d2 d3 d4 d5 d6 d7 true] w fun e w' => e = .returned (.tuple #[.string (strOfNums (wrL id n [d0, d1, d2, d3, d4, d5, d6, d7] true)), .int .i64 0]) ∧ Below w.heap.size w w' := by
  have hR := fun w => right_any id n d0 d1 d2 d3 d4 d5 d6 d7 true w ho
  rw [hq] at hR
  obtain ⟨hid1, hn0, hn8⟩ := rightB_n _ _ _ _ hq
  clear hq
  have a1 := and15w id hid (by omega)
  have a2 := and15w (id / 16) (by omega) (by omega)
  have x0 := fun w => digit_at .u16 (id / 256) (by omega) (by omega) w
  have x1 := fun w => digit_at .u16 (id / 16 % 16) (by omega) (by omega) w
  have x2 := fun w => digit_at .u16 (id % 16) (by omega) (by omega) w
  have x3 := fun w => digit_at .i64 n (by omega) (by omega) w
  go_enter Try.func12, Try.ntmps12
  go_wp2_with fail
  refine (hR _).mono ?_
  rintro e w1 ⟨rfl, hb1⟩
  have hold1 := hold_next (boxed w id n d0 d1 d2 d3 d4 d5 d6 d7 true) hb1
  have HOLD : Hid (Below w.heap.size w w1 ∧ w1.cell? ⟨w.heap.size, 0, none⟩ = some (.int .u16 id) ∧ w1.cell? ⟨w.heap.size, 1, none⟩ = some (.int .i64 n) ∧ w1.cell? ⟨w.heap.size, 2, none⟩ = some (.int .u8 d0) ∧ w1.cell? ⟨w.heap.size, 3, none⟩ = some (.int .u8 d1) ∧ w1.cell? ⟨w.heap.size, 4, none⟩ = some (.int .u8 d2) ∧ w1.cell? ⟨w.heap.size, 5, none⟩ = some (.int .u8 d3) ∧ w1.cell? ⟨w.heap.size, 6, none⟩ = some (.int .u8 d4) ∧ w1.cell? ⟨w.heap.size, 7, none⟩ = some (.int .u8 d5) ∧ w1.cell? ⟨w.heap.size, 8, none⟩ = some (.int .u8 d6) ∧ w1.cell? ⟨w.heap.size, 9, none⟩ = some (.int .u8 d7) ∧ w1.cell? ⟨w.heap.size, 10, none⟩ = some (.bool true)) := hold1
  obtain ⟨B1, c0, c1, c2, c3, c4, c5, c6, c7, c8, c9, c10⟩ := hold1
  clear hb1 hR
  go_wp2_with fail
  go_region
  have HB1 : w.heap.size < w1.heap.size := block_lt_of_cell c0
  obtain ⟨i0, hi, hz0, hz1, hz2⟩ := info_parts info8
  have own := own_lit w1 #[.int .u8 (digZ (id / 256)), .int .u8 (digZ (id / 16 % 16)), .int .u8 (digZ (id % 16)), .int .u8 35] (headL id) 4 rfl (by decide) rfl
  clear x0 x1 x2
  go_wp2_with (at_builtin; refine wpList_append_own _ rfl _ _ 23 rfl w1.heap.size 5 i0 (.int .u8 0) 1 1 Try.underlying23 hi hz0 hz1 hz2 rfl (by decide) _ _ _ rfl (own_drew (own.alloc _)) ⟨w1.heap.size + 1, 0, none⟩ 2 2 [.int .u8 82, .int .u8 (digZ n)] rfl rfl ?c1 ?c2 ?c3 ?c4 ?c5 ?_)
  case c1 =>
    intro j u hj
    match j, hj with
    | 0, hj => simp at hj; subst hj; simp [Addr.add, go_sem]
    | 1, hj => simp at hj; subst hj; simp [Addr.add, go_sem]
  case c2 =>
    intro u hu
    simp at hu
    rcases hu with rfl | rfl <;> rfl
  case c3 => decide
  case c4 => decide
  case c5 => simp; omega
  intro v' w2 own' hgrow _
  have B2 : Below w1.heap.size w1 w2 := (Below.drew (Below.al (Below.al (Below.refl _ _) _) _)).grown hgrow (by simp; omega) (fun j hj => (own.lt j hj).1)
  obtain ⟨B3, e0, e1, e2, e3, e4, e5, e6, e7, e8, e9, e10⟩ := hold_next HOLD.out B2
  obtain ⟨a, cap, rfl, hc1, hc2, row⟩ := own_row own' (zs := wrL id n [d0, d1, d2, d3, d4, d5, d6, d7] true) (by simp [wrL]) (wrL_oct id n _ true hid hid1 hn0 hn8 ho) (by simp [wrL, headL])
  clear own own' hgrow c0 c1 c2 c3 c4 c5 c6 c7 c8 c9 c10 B2
  go_wp2_with fail
  refine (carried_ask id n d0 d1 d2 d3 d4 d5 d6 d7 _).mono ?_
  rintro e w3 ⟨rfl, hb3⟩
  have hstr := (row.next hb3).str cap
  go_wp2_with fail
  go_loopw [4, 35] (fun v i wr => v = .slice a 6 cap ∧ i = .int .i64 0 ∧ wr = w3) (fun _ _ _ => 0)
  case atStart => exact ⟨rfl, rfl, rfl⟩
  case round =>
    obtain ⟨rfl, rfl, rfl⟩ := hrel
    go_wp2_with fail
    go_ret2
    exact ⟨rfl, Below.andThen B3 hb3⟩

set_option maxHeartbeats 4000000 in
set_option maxRecDepth 100000 in
theorem write_data (id d0 d1 d2 d3 d4 d5 d6 d7 : Int) (n : Nat) (w : World) (ho : Oct [d0, d1, d2, d3, d4, d5, d6, d7]) (hid : 0 ≤ id) (hq : rightB id n [d0, d1, d2, d3, d4, d5, d6, d7] false = true) :
    Calls Try.prog 12 #[frV id n d0 d1 d2 d3 d4 d5 d6 d7 false] w fun e w' => e = .returned (.tuple #[.string (strOfNums (wrL id n [d0, d1, d2, d3, d4, d5, d6, d7] false)), .int .i64 0]) ∧ Below w.heap.size w w' := by
  have hR := fun w => right_any id n d0 d1 d2 d3 d4 d5 d6 d7 false w ho
  rw [hq] at hR
  obtain ⟨hid1, hn0, hn8⟩ := rightB_n _ _ _ _ hq
  clear hq
  have a1 := and15w id hid (by omega)
  have a2 := and15w (id / 16) (by omega) (by omega)
  have x0 := fun w => digit_at .u16 (id / 256) (by omega) (by omega) w
  have x1 := fun w => digit_at .u16 (id / 16 % 16) (by omega) (by omega) w
  have x2 := fun w => digit_at .u16 (id % 16) (by omega) (by omega) w
  have x3 := fun w => digit_at .i64 n (by omega) (by omega) w
  obtain ⟨ds, HD⟩ : ∃ ds, Hid ([d0, d1, d2, d3, d4, d5, d6, d7] = ds) := ⟨_, rfl⟩
  have hl8 : Hid (ds.length = 8) := by show _ = _; rw [← HD.out]; rfl
  have hbyte := fun i hi => frC_byte id n d0 d1 d2 d3 d4 d5 d6 d7 false i hi
  rw [HD.out] at ho hbyte ⊢
  have HBY : Hid (∀ (i : Nat), i < 8 → (frC id n d0 d1 d2 d3 d4 d5 d6 d7 false)[2 + i]? = some (.int .u8 (zb ds i))) := hbyte
  clear hbyte HD
  have hcm := fun w => carried_mem id d0 d1 d2 d3 d4 d5 d6 d7 n w (by omega)
  go_enter Try.func12, Try.ntmps12
  go_wp2_with fail
  refine (hR _).mono ?_
  rintro e w1 ⟨rfl, hb1⟩
  have hold1 := hold_next (boxed w id n d0 d1 d2 d3 d4 d5 d6 d7 false) hb1
  have HOLD : Hid (Below w.heap.size w w1 ∧ w1.cell? ⟨w.heap.size, 0, none⟩ = some (.int .u16 id) ∧ w1.cell? ⟨w.heap.size, 1, none⟩ = some (.int .i64 n) ∧ w1.cell? ⟨w.heap.size, 2, none⟩ = some (.int .u8 d0) ∧ w1.cell? ⟨w.heap.size, 3, none⟩ = some (.int .u8 d1) ∧ w1.cell? ⟨w.heap.size, 4, none⟩ = some (.int .u8 d2) ∧ w1.cell? ⟨w.heap.size, 5, none⟩ = some (.int .u8 d3) ∧ w1.cell? ⟨w.heap.size, 6, none⟩ = some (.int .u8 d4) ∧ w1.cell? ⟨w.heap.size, 7, none⟩ = some (.int .u8 d5) ∧ w1.cell? ⟨w.heap.size, 8, none⟩ = some (.int .u8 d6) ∧ w1.cell? ⟨w.heap.size, 9, none⟩ = some (.int .u8 d7) ∧ w1.cell? ⟨w.heap.size, 10, none⟩ = some (.bool false)) := hold1
  obtain ⟨B1, c0, c1, c2, c3, c4, c5, c6, c7, c8, c9, c10⟩ := hold1
  clear hb1 hR
  go_wp2_with fail
  go_region
  have HB1 : w.heap.size < w1.heap.size := block_lt_of_cell c0
  obtain ⟨i0, hi, hz0, hz1, hz2⟩ := info_parts info8
  have own := own_lit w1 #[.int .u8 (digZ (id / 256)), .int .u8 (digZ (id / 16 % 16)), .int .u8 (digZ (id % 16)), .int .u8 35] (headL id) 4 rfl (by decide) rfl
  clear x0 x1 x2
  go_wp2_with fail
  refine (hcm _).mono ?_
  rintro e w3 ⟨g, rfl, hg3, hb3⟩
  have own3 := own_next (own_drew own) hb3
  have B3 : Below w1.heap.size w1 w3 := Below.andThen (Below.drew (Below.al (Below.refl _ _) _)) hb3
  have s3 : w1.heap.size < w3.heap.size := by have := hb3.size; simp at this; omega
  clear own hb3 hcm c0 c1 c2 c3 c4 c5 c6 c7 c8 c9 c10
  have HH : Hid (headL id ++ hexL (ds.take 0) = headL id) := by show _ = _; simp [hexL]
  obtain ⟨C, HC⟩ : ∃ C, Hid (frC id n d0 d1 d2 d3 d4 d5 d6 d7 false = C) := ⟨_, rfl⟩
  rw [HC.out] at hg3 HBY
  go_wp2_with fail
  go_loopw [4, 35] (fun v i wr => ∃ k : Nat, k ≤ n ∧ i = .int .i64 (k : Int) ∧ Below w1.heap.size w1 wr ∧ wr.heap[g]? = some (.cells C 26 (0, 0)) ∧ w1.heap.size < wr.heap.size ∧ wr.ownsRow w1.heap.size 5 1 v (4 + 2 * k) ((headL id ++ hexL (ds.take k)).map (Value.int .u8)))
    (fun _ i _ => n - (intOf i).toNat)
  case atStart => exact ⟨0, Nat.zero_le _, rfl, B3, hg3, s3, by rw [HH.out]; exact own3⟩
  case round =>
    obtain ⟨k, hk, rfl, hb, hg, hsz, hown⟩ := hrel
    clear B3 hg3 own3 s3
    by_cases hlt : k < n
    · have hlt' : (k : Int) < (n : Int) := by omega
      have hck : wr.cell? ⟨g, 2 + k, none⟩ = some (.int .u8 (zb ds k)) := (cell_of_row wr g (2 + k) C _ _ hg).trans (HBY.out k (by omega))
      have hzb := ho.getD k
      have BS : Hid (ds.take (k + 1) = ds.take k ++ [zb ds k]) := take_zb ds k (by rw [hl8.out]; omega)
      have y0 := fun w => digit_at .u8 (zb ds k / 16) (by unfold zb; omega) (by unfold zb; omega) w
      have y1 := fun w => digit_at .u8 (zb ds k % 16) (by unfold zb; omega) (by unfold zb; omega) w
      have y2 := and15 (zb ds k) hzb.1 hzb.2
      change 0 ≤ zb ds k ∧ zb ds k < 256 at hzb
      obtain ⟨hzb0, hzb1⟩ := hzb
      generalize zb ds k = z at *
      have OWN : Hid (wr.ownsRow w1.heap.size 5 1 u4 (4 + 2 * k) ((headL id ++ hexL (ds.take k)).map (Value.int .u8))) := hown
      have HGG : Hid (wr.heap[g]? = some (.cells C 26 (0, 0))) := hg
      clear hown hg
      go_wp2_with fail
      go_region_law (refine step_append_bytes rfl (.tmp 39) (.tmp 46) rfl w1.heap.size u4 (4 + 2 * k) (headL id ++ hexL (ds.take k)) (by simp [Act.eval]) (own_drew (OWN.out.alloc _)) ⟨wr.heap.size, 0, none⟩ 2 [digZ (z / 16), digZ (z % 16)] (by simp [Act.eval]) rfl (cells_two _ _ _ _) (by omega) (by simp; omega) ?_; intro v' w5 own5 hgrow)
      all_goals
        go_wp2_with fail
        have hlt2 : g < wr.heap.size := (Array.getElem?_eq_some_iff.1 HGG.out).1
        have e4 : 4 + 2 * (k + 1) = 4 + 2 * k + 2 := by omega
        refine ⟨⟨k + 1, by omega, by go_num, (Below.drew (Below.al hb _)).grown hgrow (by simp; omega) (fun j hj => (OWN.out.lt j hj).1), kept_other (own_drew (OWN.out.alloc _)) hgrow ((heap_alloc_old wr _ hlt2).trans HGG.out) (by decide), ?_, ?_⟩, by simp [intOf]; omega⟩
        · have := hgrow.size
          simp at this
          omega
        · rw [BS.out, hexL_snoc, ← List.append_assoc, e4]
          exact own5
    · obtain rfl : k = n := by omega
      obtain ⟨a, cap, rfl, hc1, hc2, row⟩ := own_row hown (zs := wrL id k ds false) (by simp [wrL]) (wrL_oct id k _ false hid hid1 hn0 hn8 ho) (by simp [wrL, headL, hexL_length, hl8.out]; omega)
      have hstr := row.str cap
      clear hown
      go_wp2_with fail
      go_ret2
      exact ⟨rfl, Below.andThen B1 hb⟩

/-- What Write tells of any frame. -/
theorem write_any (id n d0 d1 d2 d3 d4 d5 d6 d7 : Int) (r : Bool) (w : World) (ho : Oct [d0, d1, d2, d3, d4, d5, d6, d7]) (hid : 0 ≤ id) :
    Calls Try.prog 12 #[frV id n d0 d1 d2 d3 d4 d5 d6 d7 r] w fun e w' => e = .returned (.tuple #[.string (strOfNums (wrS id n [d0, d1, d2, d3, d4, d5, d6, d7] r)), .int .i64 (wrE id n [d0, d1, d2, d3, d4, d5, d6, d7] r)]) ∧ Below w.heap.size w w' := by
  cases hq : rightB id n [d0, d1, d2, d3, d4, d5, d6, d7] r with
  | true =>
    rw [show wrS id n [d0, d1, d2, d3, d4, d5, d6, d7] r = wrL id n [d0, d1, d2, d3, d4, d5, d6, d7] r from by simp [wrS, hq], show wrE id n [d0, d1, d2, d3, d4, d5, d6, d7] r = 0 from by simp [wrE, hq]]
    cases r with
    | true => exact write_ask id n d0 d1 d2 d3 d4 d5 d6 d7 w ho hid hq
    | false =>
      obtain ⟨m, rfl⟩ := Int.eq_ofNat_of_zero_le (rightB_n _ _ _ _ hq).2.1
      exact write_data id d0 d1 d2 d3 d4 d5 d6 d7 m w ho hid hq
  | false =>
    rw [show wrS id n [d0, d1, d2, d3, d4, d5, d6, d7] r = [] from by simp [wrS, hq], show wrE id n [d0, d1, d2, d3, d4, d5, d6, d7] r = 30 from by simp [wrE, hq]]
    have hR := fun w => right_any id n d0 d1 d2 d3 d4 d5 d6 d7 r w ho
    rw [hq] at hR
    clear hq
    go_enter Try.func12, Try.ntmps12
    go_wp2_with fail
    refine (hR _).mono ?_
    rintro e w1 ⟨rfl, hb1⟩
    go_wp2_with fail
    go_ret2
    exact ⟨rfl, Below.andThen (Below.al (Below.refl _ _) _) hb1⟩

#print axioms write_ask
#print axioms write_data
#print axioms write_any
end Go.Proofs.Ytbjbnfhmehkkpaa
