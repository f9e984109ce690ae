/-
  The law's bytes of a call.
-/
import Derived.Test.YtgpbmccjcjoijaaKj
namespace Go.Proofs.Ytgpbmccjcjoijaa
open Go.RowKit

theorem below_tr {N : Nat} {a b c : World} (h : Below N a b) (k : Below N b c) : Below N a c := ⟨k.os.trans h.os, k.tape.trans h.tape, k.output.trans h.output, Nat.le_trans h.size k.size, fun i hi => (k.block i hi).trans (h.block i hi)⟩
theorem own_less {w : World} {B k : Nat} {v : Value} {xs : List Value} (h : w.ownsRow (B + 1) 5 1 v k xs) : w.ownsRow B 5 1 v k xs := by
  refine ⟨h.1, ?_⟩
  rcases h.2 with h | ⟨g, cap, cur, e, hg, rest⟩
  · exact .inl h
  · exact .inr ⟨g, cap, cur, e, by omega, rest⟩
theorem Below.less' {N M : Nat} {a b : World} (h : Below N a b) (hm : M ≤ N) : Below M a b := ⟨h.os, h.tape, h.output, h.size, fun k hk => h.block k (by omega)⟩
/-- A call: its kind, its group, its bytes, how many more. -/
structure Opx where
  kind : Int
  grp : Int
  bs : List Int
  more : Int
structure Opx.Ok (x : Opx) : Prop where
  k0 : 0 ≤ x.kind ∧ x.kind < 256
  g0 : 0 ≤ x.grp ∧ x.grp < 256
  oct : Oct x.bs
  len : x.bs.length ≤ 20000
  m0 : 0 ≤ x.more ∧ x.more < 65536
def Opx.all (x : Opx) : List Int := x.bs ++ List.replicate (x.more % 5000).toNat 7
theorem append_none_run (ty : TypeId) (a : Option Addr) (cap : Nat) (w : World) :
    (Builtin.append_ #[33, 33] ty #[.slice none 0 0, .slice a 0 cap]).run Try.prog w = .ok (.slice none 0 0) w := by
  obtain ⟨i, hi, hz0, hz1, hz2⟩ := info_parts info8
  have hs : Src Try.prog i.size 33 (.slice a 0 cap) 0 [] w := by
    cases a with
    | none => exact Src.ofNil w Try.underlying33 cap
    | some x => exact Src.ofSlice w Try.underlying33 x 0 cap [] (by simp) (fun j u hu => by simp at hu) (fun u hu => by simp at hu)
  exact run_append_nothing (P := Try.prog) w 33 33 ty 5 i Try.underlying33 hi none 0 0 (Nat.le_refl _) _ hs

theorem wpList_append_none {w : World} {ops : Array Oper} {rest : List Oper} {o : Oper} {c : Act} {Q : Exit → Act → World → Prop} (hgd : o.guard = none) (s x : Operand)
    (ho : o.op = .call { callee := .builtin .append, args := #[s, x], argTypes := #[33, 33] }) (hs : c.eval s = .slice none 0 0)
    (a : Option Addr) (cap : Nat) (hx : c.eval x = .slice a 0 cap)
    (h : wpList Try.prog ops Q rest (c.put o.dst (.slice none 0 0)) w) : wpList Try.prog ops Q (o :: rest) c w := by
  refine wpList_plain hgd fun K hK => ?_
  have hrun := append_none_run o.type a cap w
  unfold Oper.wp
  simp [execOp, ho, resolve, invoke, builtin, hs, hx, hrun, Result.andThen]
  exact hK _ _ h

set_option linter.unusedSimpArgs false in
set_option maxHeartbeats 8000000 in
set_option maxRecDepth 100000 in
theorem opbytes_any {w : World} (x : Opx) (hx : x.Ok) (a : Option Addr) (l cap : Nat) (hr : Row w a l x.bs) :
    Calls Try.prog 16 #[.agg #[.int .u8 x.kind, .int .u8 x.grp, .slice a l cap, .int .u16 x.more]] w fun e w' => (∃ a' c', e = .returned (.slice a' x.all.length c') ∧ Told w w' a' x.all.length c' x.all) ∧ Below w.heap.size w w' := by
  obtain ⟨i0, hi0, hz0, hz1, hz2⟩ := info_parts info8
  obtain ⟨kd, gp, bs, mo⟩ := x
  obtain ⟨k0, g0, ho, hl, m0⟩ := hx
  dsimp only at *
  have hsz := hr.size
  obtain ⟨m, hm⟩ : ∃ m : Nat, m = (mo % 5000).toNat := ⟨_, rfl⟩
  have hm' : mo.tmod 5000 = (m : Int) := by rw [Int.tmod_eq_emod_of_nonneg (by omega)]; omega
  have hm5 : m < 5000 := by omega
  have ALL : Hid ((⟨kd, gp, bs, mo⟩ : Opx).all = bs ++ List.replicate m 7) := by show _ = _; rw [hm]; rfl
  rw [ALL.out]
  have bX : Below w.heap.size w (w.alloc (.cells #[.int .u8 kd, .int .u8 gp, .slice a l cap, .int .u16 mo] 36)) := Below.al (Below.refl _ _) _
  have hc : (w.alloc (.cells #[.int .u8 kd, .int .u8 gp, .slice a l cap, .int .u16 mo] 36)).heap[w.heap.size]? = some (.cells #[.int .u8 kd, .int .u8 gp, .slice a l cap, .int .u16 mo] 36 (0, 0)) := heap_alloc_new w _
  have x2 : (w.alloc (.cells #[.int .u8 kd, .int .u8 gp, .slice a l cap, .int .u16 mo] 36)).cell? ⟨w.heap.size, 2, none⟩ = some (.slice a l cap) := by rw [cell_of_row _ _ _ _ _ _ hc]; rfl
  have x3 : (w.alloc (.cells #[.int .u8 kd, .int .u8 gp, .slice a l cap, .int .u16 mo] 36)).cell? ⟨w.heap.size, 3, none⟩ = some (.int .u16 mo) := by rw [cell_of_row _ _ _ _ _ _ hc]; rfl
  have rX := hr.next bX
  have OZ0 : Hid ((w.alloc (.cells #[.int .u8 kd, .int .u8 gp, .slice a l cap, .int .u16 mo] 36)).ownsRow (w.heap.size + 1) 5 1 (.slice none 0 0) 0 []) := ⟨by simp, .inl ⟨rfl, rfl⟩⟩
  have hzX : (w.alloc (.cells #[.int .u8 kd, .int .u8 gp, .slice a l cap, .int .u16 mo] 36)).heap.size = w.heap.size + 1 := World.size_alloc _ _
  have HX3 : Hid ((w.alloc (.cells #[.int .u8 kd, .int .u8 gp, .slice a l cap, .int .u16 mo] 36)).cell? ⟨w.heap.size, 3, none⟩ = some (.int .u16 mo)) := x3
  have HBX : Hid (Below w.heap.size w (w.alloc (.cells #[.int .u8 kd, .int .u8 gp, .slice a l cap, .int .u16 mo] 36))) := bX
  have HZX : Hid ((w.alloc (.cells #[.int .u8 kd, .int .u8 gp, .slice a l cap, .int .u16 mo] 36)).heap.size = w.heap.size + 1) := hzX
  -- behind the first append
  have mid : ∀ (v : Value) (z : World), z.ownsRow (w.heap.size + 1) 5 1 v l (bs.map (Value.int .u8)) → Below (w.heap.size + 1) (w.alloc (.cells #[.int .u8 kd, .int .u8 gp, .slice a l cap, .int .u16 mo] 36)) z → True := fun _ _ _ _ => trivial
  clear mid hc bX hzX x3
  rcases Nat.eq_zero_or_pos l with h0 | hp
  · subst h0
    have hbs : Hid (bs = []) := List.eq_nil_of_length_eq_zero hsz
    go_enter Try.func16, Try.ntmps16
    go_wp2_with (at_builtin; refine wpList_append_none rfl _ _ rfl rfl _ _ rfl ?_)
    have OWN0 : (w.alloc (.cells #[.int .u8 kd, .int .u8 gp, .slice a 0 cap, .int .u16 mo] 36)).ownsRow (w.heap.size + 1) 5 1 (.slice none 0 0) bs.length (bs.map (Value.int .u8)) := by rw [hbs.out]; exact OZ0.out
    have BZ0 : Below (w.heap.size + 1) (w.alloc (.cells #[.int .u8 kd, .int .u8 gp, .slice a 0 cap, .int .u16 mo] 36)) (w.alloc (.cells #[.int .u8 kd, .int .u8 gp, .slice a 0 cap, .int .u16 mo] 36)) := Below.refl _ _
    generalize (w.alloc (.cells #[.int .u8 kd, .int .u8 gp, .slice a 0 cap, .int .u16 mo] 36)) = X at *
    have HOW : Hid (X.ownsRow (w.heap.size + 1) 5 1 (.slice none 0 0) bs.length (bs.map (Value.int .u8))) := OWN0
    have HBZ : Hid (Below (w.heap.size + 1) X X) := BZ0
    clear OWN0 BZ0
    go_loopw [3, 4] (fun v u wr => ∃ i : Nat, i ≤ m ∧ u = .int .i64 i ∧ Below (w.heap.size + 1) X wr ∧ wr.ownsRow (w.heap.size + 1) 5 1 v (bs ++ List.replicate i (7 : Int)).length ((bs ++ List.replicate i (7 : Int)).map (Value.int .u8))) (fun _ u _ => m - (intOf u).toNat)
    case atStart => exact ⟨0, by omega, rfl, HBZ.out, by simpa using HOW.out⟩
    case round =>
      obtain ⟨i, hi, rfl, hb, hown⟩ := hrel
      have OWN : Hid (wr.ownsRow (w.heap.size + 1) 5 1 u3 (bs ++ List.replicate i (7 : Int)).length ((bs ++ List.replicate i (7 : Int)).map (Value.int .u8))) := hown
      clear hown
      have HB : Hid (Below (w.heap.size + 1) X wr) := hb
      have y3 : wr.cell? ⟨w.heap.size, 3, none⟩ = some (.int .u16 mo) := by rw [hb.cell (p := ⟨w.heap.size, 3, none⟩) (by simp)]; exact HX3.out
      have hsr : w.heap.size + 1 ≤ wr.heap.size := by have := hb.size; rw [HZX.out] at this; exact this
      by_cases hlt : i < m
      · have g1 : (i : Int) < (m : Int) := by omega
        have e : Hid (bs ++ List.replicate (i + 1) (7 : Int) = (bs ++ List.replicate i (7 : Int)) ++ [7]) := by show _ = _; rw [List.replicate_succ', List.append_assoc]
        have hN : (bs ++ List.replicate i (7 : Int)).length ≤ 25000 := by simp; omega
        generalize bs ++ List.replicate i (7 : Int) = L at *
        have hb2 : Below (w.heap.size + 1) X (wr.alloc (.cells #[.int .u8 7] 5)) := HB.out.alloc hsr _
        have OZ : Hid ((wr.alloc (.cells #[.int .u8 7] 5)).ownsRow (w.heap.size + 1) 5 1 u3 L.length (L.map (Value.int .u8))) := own_next OWN.out (Below.al (Below.refl _ _) _)
        have NW : ∀ j u, ([Value.int .u8 7])[j]? = some u → (wr.alloc (.cells #[.int .u8 7] 5)).cell? ((⟨wr.heap.size, 0, none⟩ : Addr).add j) = some u := fun j u hu => by
          have hj : j = 0 := by
            by_cases hj : j = 0
            · exact hj
            · rw [List.getElem?_eq_none (by simp; omega)] at hu; cases hu
          subst hj
          obtain rfl : Value.int .u8 7 = u := by simpa using hu
          simp [Addr.add]
        have o1 : ∀ v ∈ [Value.int .u8 7], v.oneCell' = true := fun v hv => by
          obtain rfl : v = Value.int .u8 7 := by simpa using hv
          rfl
        clear OWN
        go_wp2_with (at_builtin; refine wpList_append_own _ rfl _ _ 33 rfl (w.heap.size + 1) 5 i0 (.int .u8 0) 1 1 Try.underlying33 hi0 hz0 hz1 hz2 rfl (by decide) _ _ _ rfl OZ.out ⟨wr.heap.size, 0, none⟩ 1 1 [Value.int .u8 7] rfl rfl NW o1 (by unfold maxLen; omega) (by omega) (by simp; omega) ?_)
        intro v' w3 hown2 hgrow2 _
        have hb3 : Below (w.heap.size + 1) X w3 := hb2.grown hgrow2 (by simp; omega) (fun j hj => (OZ.out.lt j hj).1)
        have OWN2 : Hid (w3.ownsRow (w.heap.size + 1) 5 1 v' (bs ++ List.replicate (i + 1) (7 : Int)).length ((bs ++ List.replicate (i + 1) (7 : Int)).map (Value.int .u8))) := by
          rw [e.out]
          have e9 : (L ++ [(7 : Int)]).length = L.length + 1 := by simp
          have e8 : (L ++ [(7 : Int)]).map (Value.int .u8) = L.map (Value.int .u8) ++ [Value.int .u8 7] := by simp
          rw [e9, e8]
          exact hown2
        clear hown2 hgrow2 NW o1 OZ hb2
        go_wp2_with fail
        exact ⟨⟨i + 1, by omega, by go_num, hb3, OWN2.out⟩, by simp [intOf]; omega⟩
      · obtain rfl : i = m := by omega
        have O2 := own_less OWN.out
        obtain ⟨a9, cap9, rfl, ht⟩ := own_told O2 (ho.app (fun q hq => by rw [List.eq_of_mem_replicate hq]; decide)) rfl
        clear O2 OWN
        have HFIN : Hid (Below w.heap.size w wr) := below_tr HBX.out (Below.less' HB.out (by omega))
        go_wp2_with fail
        go_ret
        exact ⟨⟨_, _, rfl, ht⟩, HFIN.out⟩
  · obtain ⟨b, off, rfl, hcb⟩ := rX.at_ hp
    have o1 : ∀ v ∈ bs.map (Value.int .u8), v.oneCell' = true := fun v hv => by obtain ⟨_, _, rfl⟩ := List.mem_map.1 hv; rfl
    have NW := rX.cells
    go_enter Try.func16, Try.ntmps16
    go_wp2_with (at_builtin; refine wpList_append_own _ rfl _ _ 33 rfl (w.heap.size + 1) 5 i0 (.int .u8 0) 1 1 Try.underlying33 hi0 hz0 hz1 hz2 rfl (by decide) _ _ _ rfl OZ0.out ⟨b, off, none⟩ l cap (bs.map (Value.int .u8)) rfl (by rw [List.length_map, hsz]; omega) NW o1 (by unfold maxLen; omega) (by omega) (by rw [HZX.out]; omega) ?_)
    intro v' w2 hown' hgrow _
    have BZ0 : Below (w.heap.size + 1) (w.alloc (.cells #[.int .u8 kd, .int .u8 gp, .slice (some ⟨b, off, none⟩) l cap, .int .u16 mo] 36)) w2 := (Below.refl _ _).grown hgrow (by rw [HZX.out]; omega) (fun j hj => (OZ0.out.lt j hj).1)
    have OWN0 : w2.ownsRow (w.heap.size + 1) 5 1 v' bs.length (bs.map (Value.int .u8)) := by rw [hsz]; exact hown'
    clear hown' hgrow NW o1 OZ0 x2 rX hcb hr
    generalize (w.alloc (.cells #[.int .u8 kd, .int .u8 gp, .slice (some ⟨b, off, none⟩) l cap, .int .u16 mo] 36)) = X at *
    go_wp2_with fail
    have HOW : Hid (w2.ownsRow (w.heap.size + 1) 5 1 v' bs.length (bs.map (Value.int .u8))) := OWN0
    have HBZ : Hid (Below (w.heap.size + 1) X w2) := BZ0
    clear OWN0 BZ0
    go_loopw [3, 4] (fun v u wr => ∃ i : Nat, i ≤ m ∧ u = .int .i64 i ∧ Below (w.heap.size + 1) X wr ∧ wr.ownsRow (w.heap.size + 1) 5 1 v (bs ++ List.replicate i (7 : Int)).length ((bs ++ List.replicate i (7 : Int)).map (Value.int .u8))) (fun _ u _ => m - (intOf u).toNat)
    case atStart => exact ⟨0, by omega, rfl, HBZ.out, by simpa using HOW.out⟩
    case round =>
      obtain ⟨i, hi, rfl, hb, hown⟩ := hrel
      have OWN : Hid (wr.ownsRow (w.heap.size + 1) 5 1 u3 (bs ++ List.replicate i (7 : Int)).length ((bs ++ List.replicate i (7 : Int)).map (Value.int .u8))) := hown
      clear hown
      have HB : Hid (Below (w.heap.size + 1) X wr) := hb
      have y3 : wr.cell? ⟨w.heap.size, 3, none⟩ = some (.int .u16 mo) := by rw [hb.cell (p := ⟨w.heap.size, 3, none⟩) (by simp)]; exact HX3.out
      have hsr : w.heap.size + 1 ≤ wr.heap.size := by have := hb.size; rw [HZX.out] at this; exact this
      by_cases hlt : i < m
      · have g1 : (i : Int) < (m : Int) := by omega
        have e : Hid (bs ++ List.replicate (i + 1) (7 : Int) = (bs ++ List.replicate i (7 : Int)) ++ [7]) := by show _ = _; rw [List.replicate_succ', List.append_assoc]
        have hN : (bs ++ List.replicate i (7 : Int)).length ≤ 25000 := by simp; omega
        generalize bs ++ List.replicate i (7 : Int) = L at *
        have hb2 : Below (w.heap.size + 1) X (wr.alloc (.cells #[.int .u8 7] 5)) := HB.out.alloc hsr _
        have OZ : Hid ((wr.alloc (.cells #[.int .u8 7] 5)).ownsRow (w.heap.size + 1) 5 1 u3 L.length (L.map (Value.int .u8))) := own_next OWN.out (Below.al (Below.refl _ _) _)
        have NW : ∀ j u, ([Value.int .u8 7])[j]? = some u → (wr.alloc (.cells #[.int .u8 7] 5)).cell? ((⟨wr.heap.size, 0, none⟩ : Addr).add j) = some u := fun j u hu => by
          have hj : j = 0 := by
            by_cases hj : j = 0
            · exact hj
            · rw [List.getElem?_eq_none (by simp; omega)] at hu; cases hu
          subst hj
          obtain rfl : Value.int .u8 7 = u := by simpa using hu
          simp [Addr.add]
        have o1 : ∀ v ∈ [Value.int .u8 7], v.oneCell' = true := fun v hv => by
          obtain rfl : v = Value.int .u8 7 := by simpa using hv
          rfl
        clear OWN
        go_wp2_with (at_builtin; refine wpList_append_own _ rfl _ _ 33 rfl (w.heap.size + 1) 5 i0 (.int .u8 0) 1 1 Try.underlying33 hi0 hz0 hz1 hz2 rfl (by decide) _ _ _ rfl OZ.out ⟨wr.heap.size, 0, none⟩ 1 1 [Value.int .u8 7] rfl rfl NW o1 (by unfold maxLen; omega) (by omega) (by simp; omega) ?_)
        intro v' w3 hown2 hgrow2 _
        have hb3 : Below (w.heap.size + 1) X w3 := hb2.grown hgrow2 (by simp; omega) (fun j hj => (OZ.out.lt j hj).1)
        have OWN2 : Hid (w3.ownsRow (w.heap.size + 1) 5 1 v' (bs ++ List.replicate (i + 1) (7 : Int)).length ((bs ++ List.replicate (i + 1) (7 : Int)).map (Value.int .u8))) := by
          rw [e.out]
          have e9 : (L ++ [(7 : Int)]).length = L.length + 1 := by simp
          have e8 : (L ++ [(7 : Int)]).map (Value.int .u8) = L.map (Value.int .u8) ++ [Value.int .u8 7] := by simp
          rw [e9, e8]
          exact hown2
        clear hown2 hgrow2 NW o1 OZ hb2
        go_wp2_with fail
        exact ⟨⟨i + 1, by omega, by go_num, hb3, OWN2.out⟩, by simp [intOf]; omega⟩
      · obtain rfl : i = m := by omega
        have O2 := own_less OWN.out
        obtain ⟨a9, cap9, rfl, ht⟩ := own_told O2 (ho.app (fun q hq => by rw [List.eq_of_mem_replicate hq]; decide)) rfl
        clear O2 OWN
        have HFIN : Hid (Below w.heap.size w wr) := below_tr HBX.out (Below.less' HB.out (by omega))
        go_wp2_with fail
        go_ret
        exact ⟨⟨_, _, rfl, ht⟩, HFIN.out⟩
#print axioms opbytes_any
end Go.Proofs.Ytgpbmccjcjoijaa
