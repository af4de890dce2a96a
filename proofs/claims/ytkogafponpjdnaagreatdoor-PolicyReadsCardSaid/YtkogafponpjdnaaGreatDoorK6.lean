/- readAction. -/
import Derived.Test.YtkogafponpjdnaaGreatDoorK5
import Derived.Lib.SplitLaws
import Derived.Lib.IndexBytes
import Derived.Deep.AppendLies
import Derived.Lib.SmallJoins
import Derived.Deep.RegionLaw
namespace Go.Proofs.YtkogafponpjdnaaGreatDoor
open Go.RowKit Go.Sort

theorem row_heap (X : World) (r k : Nat) (cs : Array Value) (h : k ≠ r) : (X.setRow r cs).heap[k]? = X.heap[k]? := setRow_other _ _ _ _ h
theorem row_size (X : World) (r : Nat) (cs : Array Value) : (X.setRow r cs).heap.size = X.heap.size := by simp [World.setRow]
/-- Another row written, one of the call's own. -/
theorem But.row {g r : Nat} {w X : World} (h : But g w X) (hr : w.heap.size ≤ r) (cs : Array Value) : But g w (X.setRow r cs) :=
  ⟨h.os, h.tape, h.output, by rw [row_size]; exact h.size, fun k hk hn => (row_heap X r k cs (by omega)).trans (h.block k hk hn)⟩
theorem IsWords.row {X : World} {g B r : Nat} {ws : List W8} (h : IsWords X g B ws) (hr : B ≤ r) (cs : Array Value) : IsWords (X.setRow r cs) g B ws :=
  h.heap (by rw [row_size]; exact h.le) fun k hk => row_heap X r k cs (by omega)
theorem size_action : (Tryz.prog.info? 24).map (·.size) = some 2 := by kernel_rfl

theorem one2 (a b : Int) : (#[.int .i64 a, .int .i64 b] : Array Value).all (·.oneCell') = true := by simp [Value.oneCell']
theorem beq_no {q x : W8} (h : q ≠ x) : (q == x) = false := by simpa using h

set_option maxHeartbeats 1000000 in
theorem readAct_any (ws : List W8) (g B : Nat) (hg : 7 ≤ g) (w : World) (h : IsWords w g B ws) (hE : EV w) : Calls Tryz.prog 59 #[.pointer (some ⟨g, 0, none⟩)] w fun e w' => e = .returned (actV (readAct ws).1) ∧ IsWords w' g B (readAct ws).2 ∧ But g w w' := by
  obtain ⟨V, hV, hVh, hVb, hVs⟩ : ∃ V, V = w.alloc (.cells #[.int .i64 0, .int .i64 0] 24) ∧ V.heap[w.heap.size]? = some (.cells #[.int .i64 0, .int .i64 0] 24 (0, 0)) ∧ Below w.heap.size w V ∧ w.heap.size < V.heap.size := ⟨_, rfl, heap_alloc_new _ _, box_below _ _, by rw [World.size_alloc]; omega⟩
  have hgw : g < w.heap.size := Nat.lt_of_lt_of_le h.lt h.le
  have HN := next_any ws g B V (h.on hVb)
  have HR := fun X hX hE => readNum_any ws.tail g B hg X hX hE
  have HE := hide (hE.on hVb)
  have HB := hide h.le
  obtain ⟨q, hq⟩ : ∃ q, q = bs (ws.headD []) := ⟨_, rfl⟩
  rw [← hq] at HN
  have HQ := hide (show q.toList = ws.headD [] by rw [hq, bs_toList])
  clear hE h
  have HRR := hide (show w.heap.size ≠ g ∧ w.heap.size < V.heap.size by omega)
  by_cases h1 : ws.headD [] = wAllow
  · have HV := hide (show readAct ws = (⟨1, 0⟩, ws.tail) by unfold readAct; rw [if_pos h1])
    rw [h1] at hq
    subst hq
    unfold bs wAllow at HN
    clear HQ HR
    go_enter Tryz.func59, Tryz.ntmps59
    go_wp2_with (first
      | (go_at_call 58; rw [← hV]; refine HN.mono ?_; rintro e X ⟨rfl, hX, hXb⟩; have hXr := (hXb.block w.heap.size HRR.out.2 HRR.out.1).trans hVh)
      | (refine wpList_store_row rfl 24 _ _ rfl w.heap.size #[.int .i64 1, .int .i64 0] rfl rfl 24 _ hXr size_action rfl (one2 _ _) ?_))
    refine bodyPost_ret (v := .agg #[.int .i64 1, .int .i64 0]) (results_cell_row rfl _ _ w.heap.size 24 #[.int .i64 1, .int .i64 0] (0, 0) _ rfl (setRow_heap _ _ _ _ _ _ hXr) Tryz.underlying24 rfl size_action) rfl ⟨?_, ?_, ?_⟩
    · rw [HV.out]; rfl
    · rw [HV.out]; exact hX.row HB.out _
    · exact ((But.of hVb).trans hXb).row (Nat.le_refl _) _
  have n1 := h1
  clear h1
  by_cases h1 : ws.headD [] = wKill
  · have HV := hide (show readAct ws = (⟨3, 0⟩, ws.tail) by unfold readAct; rw [if_neg n1, if_pos h1])
    rw [h1] at hq
    subst hq
    unfold bs wKill at HN
    clear HQ HR
    go_enter Tryz.func59, Tryz.ntmps59
    go_wp2_with (first
      | (go_at_call 58; rw [← hV]; refine HN.mono ?_; rintro e X ⟨rfl, hX, hXb⟩; have hXr := (hXb.block w.heap.size HRR.out.2 HRR.out.1).trans hVh)
      | (refine wpList_store_row rfl 24 _ _ rfl w.heap.size #[.int .i64 3, .int .i64 0] rfl rfl 24 _ hXr size_action rfl (one2 _ _) ?_))
    refine bodyPost_ret (v := .agg #[.int .i64 3, .int .i64 0]) (results_cell_row rfl _ _ w.heap.size 24 #[.int .i64 3, .int .i64 0] (0, 0) _ rfl (setRow_heap _ _ _ _ _ _ hXr) Tryz.underlying24 rfl size_action) rfl ⟨?_, ?_, ?_⟩
    · rw [HV.out]; rfl
    · rw [HV.out]; exact hX.row HB.out _
    · exact ((But.of hVb).trans hXb).row (Nat.le_refl _) _
  have n2 := h1
  clear h1
  by_cases h1 : ws.headD [] = wDeny
  · have HV := hide (show readAct ws = (⟨2, toI (numU (ws.tail.headD []))⟩, ws.tail.tail) by unfold readAct; rw [if_neg n1, if_neg n2, if_pos h1])
    rw [h1] at hq
    subst hq
    unfold bs wDeny at HN
    obtain ⟨u, hu⟩ : ∃ u, u = numU (ws.tail.headD []) := ⟨_, rfl⟩
    rw [← hu] at HR HV
    have hti : IntKind.i64.wrap (u : Int) = toI u := rfl
    obtain ⟨ti, ht⟩ : ∃ t, t = toI u := ⟨_, rfl⟩
    rw [← ht] at hti HV
    clear HQ hu ht
    go_enter Tryz.func59, Tryz.ntmps59
    go_wp2_with (first
      | (go_at_call 58; rw [← hV]; refine HN.mono ?_; rintro e X ⟨rfl, hX, hXb⟩; have HX := hide hX; have HXB := hide hXb; clear hX hXb)
      | (go_at_call 77; refine (HR _ HX.out (HE.out.but hg HXB.out)).mono ?_; rintro e Y ⟨rfl, hY, hYb⟩; have hYr := (hYb.block w.heap.size (Nat.lt_of_lt_of_le HRR.out.2 HXB.out.size) HRR.out.1).trans ((HXB.out.block w.heap.size HRR.out.2 HRR.out.1).trans hVh))
      | (refine wpList_store_row rfl 24 _ _ rfl w.heap.size #[.int .i64 2, .int .i64 ti] rfl rfl 24 _ hYr size_action rfl (one2 _ _) ?_))
    refine bodyPost_ret (v := .agg #[.int .i64 2, .int .i64 ti]) (results_cell_row rfl _ _ w.heap.size 24 #[.int .i64 2, .int .i64 ti] (0, 0) _ rfl (setRow_heap _ _ _ _ _ _ hYr) Tryz.underlying24 rfl size_action) rfl ⟨?_, ?_, ?_⟩
    · rw [HV.out]; rfl
    · rw [HV.out]; exact hY.row HB.out _
    · exact (((But.of hVb).trans HXB.out).trans hYb).row (Nat.le_refl _) _
  · have HV := hide (show readAct ws = (⟨0, 0⟩, ws.tail) by unfold readAct; rw [if_neg n1, if_neg n2, if_neg h1])
    have b1 := beq_no n1
    have b2 := beq_no n2
    have b3 := beq_no h1
    rw [← HQ.out] at b1 b2 b3
    unfold wAllow at b1
    unfold wKill at b2
    unfold wDeny at b3
    clear HQ hq n1 n2 h1 HR
    go_enter Tryz.func59, Tryz.ntmps59
    go_wp2_with (first
      | (go_at_call 58; rw [← hV]; refine HN.mono ?_; rintro e X ⟨rfl, hX, hXb⟩; have hXr := (hXb.block w.heap.size HRR.out.2 HRR.out.1).trans hVh)
      | (refine wpList_store_row rfl 24 _ _ rfl w.heap.size #[.int .i64 0, .int .i64 0] rfl rfl 24 _ hXr size_action rfl (one2 _ _) ?_))
    refine bodyPost_ret (v := .agg #[.int .i64 0, .int .i64 0]) (results_cell_row rfl _ _ w.heap.size 24 #[.int .i64 0, .int .i64 0] (0, 0) _ rfl (setRow_heap _ _ _ _ _ _ hXr) Tryz.underlying24 rfl size_action) rfl ⟨?_, ?_, ?_⟩
    · rw [HV.out]; rfl
    · rw [HV.out]; exact hX.row HB.out _
    · exact ((But.of hVb).trans hXb).row (Nat.le_refl _) _
end Go.Proofs.YtkogafponpjdnaaGreatDoor

/- readCond. -/
namespace Go.Proofs.YtkogafponpjdnaaGreatDoor
open Go.RowKit Go.Sort

def condC (c : CD) : Array Value := #[.int .i64 c.arg, .int .i64 c.op, .int .u64 c.v, .int .u64 c.m, .string c.glob, .int .u32 c.net.ip, .int .i64 c.net.bits, .int .i64 c.net.lo, .int .i64 c.net.hi]
def zeroCD : CD := ⟨0, 0, 0, 0, ⟨#[]⟩, noNet⟩
theorem size_cond : (Tryz.prog.info? 69).map (·.size) = some 9 := by kernel_rfl
theorem condC_one (c : CD) : (condC c).all (·.oneCell') = true := by simp [condC, Value.oneCell']
/-- The world in the midst of readCond: the result's row at r1, x's row at r2. -/
structure CX (w : World) (g B r1 r2 : Nat) (ws : List W8) (c : CD) (X : World) : Prop where
  words : IsWords X g B ws
  but : But g w X
  res : X.heap[r1]? = some (.cells (condC zeroCD) 69 (0, 0))
  row : X.heap[r2]? = some (.cells (condC c) 69 (0, 0))
  le : w.heap.size ≤ r1 ∧ r1 < r2 ∧ g < w.heap.size ∧ B ≤ w.heap.size ∧ 7 ≤ g
  ev : EV X
theorem CX.step {w : World} {g B r1 r2 : Nat} {ws ws' : List W8} {c : CD} {X Y : World} (h : CX w g B r1 r2 ws c X) (hg : 7 ≤ g) (hY : IsWords Y g B ws') (hb : But g X Y) : CX w g B r1 r2 ws' c Y :=
  have h1 := (Array.getElem?_eq_some_iff.1 h.res).1
  have h2 := (Array.getElem?_eq_some_iff.1 h.row).1
  have hl := h.le
  ⟨hY, h.but.trans hb, (hb.block r1 h1 (by omega)).trans h.res, (hb.block r2 h2 (by omega)).trans h.row, h.le, h.ev.but hg hb⟩
theorem CX.on {w : World} {g B r1 r2 : Nat} {ws : List W8} {c : CD} {X Y : World} (h : CX w g B r1 r2 ws c X) (hg : 7 ≤ g) (hb : Below X.heap.size X Y) : CX w g B r1 r2 ws c Y := h.step hg (h.words.on hb) (But.of hb)
theorem CX.set {w : World} {g B r1 r2 : Nat} {ws : List W8} {c : CD} {X : World} (h : CX w g B r1 r2 ws c X) (j : Nat) (v : Value) (c' : CD) (hc : (condC c).setIfInBounds j v = condC c') : CX w g B r1 r2 ws c' (X.setCell ⟨r2, j, none⟩ v) := by
  have hl := h.le
  have h7 := h.ev.lt
  rw [setCell_eq_setRow _ _ j _ _ _ _ h.row, hc]
  refine ⟨h.words.row (by omega) _, h.but.row (by omega) _, (setRow_other _ _ _ _ (by omega)).trans h.res, setRow_heap _ _ _ _ _ _ h.row, h.le, ?_⟩
  exact h.ev.heap fun k hk => row_heap X r2 k _ (by have := h.words.le; have := h.words.lt; have := h.but.size; omega)
theorem CX.cell {w : World} {g B r1 r2 : Nat} {ws : List W8} {c : CD} {X : World} (h : CX w g B r1 r2 ws c X) (j : Nat) : X.cell? ⟨r2, j, none⟩ = (condC c)[j]? := cell_of_row _ _ j _ _ _ h.row
theorem CX.fro {w : World} {g B r1 r2 : Nat} {ws : List W8} {c : CD} {X : World} (h : CX w g B r1 r2 ws c X) (j : Nat) : X.frozen? ⟨r2, j, none⟩ = false := frozen_of_row _ _ j _ _ h.row

theorem CX.start {w V X : World} {g B : Nat} {ws : List W8} (a : Int) (hg : 7 ≤ g) (hgw : g < w.heap.size) (hB : B ≤ w.heap.size) (hVb : Below w.heap.size w V) (hVh : V.heap[w.heap.size]? = some (.cells (condC zeroCD) 69 (0, 0))) (hVs : w.heap.size < V.heap.size) (hEV : EV V)
    (hX : IsWords X g B ws) (hXb : But g V X) : CX w g B w.heap.size X.heap.size ws ⟨a, 0, 0, 0, ⟨#[]⟩, noNet⟩ (X.alloc (.cells (condC ⟨a, 0, 0, 0, ⟨#[]⟩, noNet⟩) 69)) :=
  have hs := hXb.size
  ⟨hX.on (box_below _ _), ((But.of hVb).trans hXb).trans (But.of (box_below _ _)), (((box_below X _).block w.heap.size (by omega)).trans (hXb.block w.heap.size hVs (by omega))).trans hVh, heap_alloc_new _ _, ⟨Nat.le_refl _, by omega, hgw, hB, hg⟩, (hEV.but hg hXb).on (box_below _ _)⟩
theorem CX.done {w : World} {g B r1 r2 : Nat} {ws : List W8} {c : CD} {X : World} (h : CX w g B r1 r2 ws c X) (cs : Array Value) : IsWords (X.setRow r1 cs) g B ws ∧ But g w (X.setRow r1 cs) :=
  ⟨h.words.row (by have := h.le; omega) _, h.but.row h.le.1 _⟩

theorem calls_forget {P : Program} {f : FuncId} {args : Array Value} {Q : Ending → World → Prop} {W0 : World} (F : World → Prop) (h : F W0) (H : ∀ W, F W → Calls P f args W Q) : Calls P f args W0 Q := H _ h
theorem trim_below {w w' : World} (h : w' = w ∨ w' = w.drew) : Below w.heap.size w w' := by
  rcases h with rfl | rfl
  · exact Below.refl _ _
  · exact (Below.refl _ _).drew
theorem parseV_net (x : W8) : ∃ (ip : Nat) (b lo hi : Int) (er : Value), parseV (parseR x) = .tuple #[netV ip b lo hi, er] ∧ netRead x = ⟨ip, b, lo, hi⟩ := by
  unfold netRead
  cases h : parseR x with
  | none => exact ⟨0, 0, 0, 0, _, rfl, rfl⟩
  | some p =>
    obtain ⟨ip, b, lo, hi⟩ := p
    exact ⟨ip, b, lo, hi, _, rfl, rfl⟩
theorem trimQ_size {x : W8} (h : x.length ≤ 9000) : (⟨(trimQ x).toArray⟩ : ByteArray).size ≤ 9000 := by
  have h1 : (trimQ x).length ≤ x.length := by
    unfold trimQ Lib.trimB Lib.trimLeftB Lib.trimRightB
    have e1 := (List.dropWhile_sublist (p := (· == (34 : UInt8))) (l := (List.dropWhile (· == (34 : UInt8)) x.reverse).reverse)).length_le
    have e2 := (List.dropWhile_sublist (p := (· == (34 : UInt8))) (l := x.reverse)).length_le
    simp only [List.length_reverse] at e1 e2
    omega
  simp only [ByteArray.size, List.size_toArray]
  omega

theorem nextX {ws t : List W8} {x : W8} (ht : t = ws.tail) (hx : x = ws.headD []) (g B : Nat) (w : World) (h : IsWords w g B ws) : Calls Tryz.prog 58 #[.pointer (some ⟨g, 0, none⟩)] w fun e w' => e = .returned (.string (bs x)) ∧ IsWords w' g B t ∧ But g w w' := by
  subst ht hx
  exact next_any ws g B w h
theorem numX {ws t : List W8} {u : Nat} (ht : t = ws.tail) (hu : u = numU (ws.headD [])) (g B : Nat) (hg : 7 ≤ g) (w : World) (h : IsWords w g B ws) (hE : EV w) : Calls Tryz.prog 77 #[.pointer (some ⟨g, 0, none⟩)] w fun e w' => e = .returned (.int .u64 u) ∧ IsWords w' g B t ∧ But g w w' := by
  subst ht hu
  exact readNum_any ws g B hg w h hE

set_option maxHeartbeats 4000000 in
theorem readCond_any (ws : List W8) (g B : Nat) (hg : 7 ≤ g) (w : World) (h : IsWords w g B ws) (hE : EV w) : Calls Tryz.prog 79 #[.pointer (some ⟨g, 0, none⟩)] w fun e w' => e = .returned (condV (readCond ws).1) ∧ IsWords w' g B (readCond ws).2 ∧ But g w w' := by
  obtain ⟨V, hV, hVh, hVb, hVs⟩ : ∃ V, V = w.alloc (.cells (condC zeroCD) 69) ∧ V.heap[w.heap.size]? = some (.cells (condC zeroCD) 69 (0, 0)) ∧ Below w.heap.size w V ∧ w.heap.size < V.heap.size := ⟨_, rfl, heap_alloc_new _ _, box_below _ _, by rw [World.size_alloc]; omega⟩
  have hgw : g < w.heap.size := Nat.lt_of_lt_of_le h.lt h.le
  obtain ⟨t1, ht1⟩ : ∃ t, t = ws.tail := ⟨_, rfl⟩
  obtain ⟨u0, hu0⟩ : ∃ u, u = numU (ws.headD []) := ⟨_, rfl⟩
  have HR0 := numX ht1 hu0 g B hg V (h.on hVb) (hE.on hVb)
  have HLE := hide h.le
  have HEV := hide (hE.on hVb)
  have hti : IntKind.i64.wrap (u0 : Int) = toI u0 := rfl
  obtain ⟨a0, ha0⟩ : ∃ t, t = toI u0 := ⟨_, rfl⟩
  rw [← ha0] at hti
  obtain ⟨x1, hx1⟩ : ∃ x, x = t1.headD [] := ⟨_, rfl⟩
  obtain ⟨t2, ht2⟩ : ∃ t, t = t1.tail := ⟨_, rfl⟩
  obtain ⟨x2, hx2⟩ : ∃ x, x = t2.headD [] := ⟨_, rfl⟩
  obtain ⟨um, hum⟩ : ∃ x, x = numU (t2.headD []) := ⟨_, rfl⟩
  obtain ⟨t3, ht3⟩ : ∃ t, t = t2.tail := ⟨_, rfl⟩
  obtain ⟨x3, hx3⟩ : ∃ x, x = t3.headD [] := ⟨_, rfl⟩
  obtain ⟨t4, ht4⟩ : ∃ t, t = t3.tail := ⟨_, rfl⟩
  obtain ⟨uv, huv⟩ : ∃ x, x = numU (t4.headD []) := ⟨_, rfl⟩
  obtain ⟨t5, ht5⟩ : ∃ t, t = t4.tail := ⟨_, rfl⟩
  obtain ⟨op, hop⟩ : ∃ o, o = findOp x1 := ⟨_, rfl⟩
  have HRC := hide (show readCond ws = if op = 8 then (⟨a0, op, 0, 0, ⟨(trimQ x2).toArray⟩, noNet⟩, t3)
      else if op = 9 then (⟨a0, op, 0, 0, ByteArray.empty, netRead x2⟩, t3)
      else if op = 7 then (⟨a0, op, uv, um, ByteArray.empty, noNet⟩, t5)
      else (⟨a0, op, um, 0, ByteArray.empty, noNet⟩, t3) by rw [ha0, hu0, hop, ht5, huv, ht4, hx1, hx2, hum, ht3, ht2, ht1]; rfl)
  have HF := fun X hX => findOp_any x1 X hX
  rw [← hop] at HF
  have HT2 := hide ht2
  have HX1 := hide hx1
  have HX2 := hide hx2
  have HX3 := hide hx3
  have HUM := hide hum
  have HT3 := hide ht3
  have HT4 := hide ht4
  have HT5 := hide ht5
  have HUV := hide huv
  clear hu0 ha0 hop h hE ht1 hx1 ht2 hx2 hum ht3 hx3 ht4 huv ht5
  unfold condC zeroCD noNet at hV
  simp only at hV
  go_enter Tryz.func79, Tryz.ntmps79
  go_wp2_with fail
  have hV2 := hV
  rw [show (w.alloc (Obj.cells #[.int .i64 0, .int .i64 0, .int .u64 0, .int .u64 0, .string ⟨#[]⟩, .int .u32 0, .int .i64 0, .int .i64 0, .int .i64 0] 69)) = V from hV2.symm]
  refine HR0.mono ?_
  rintro e X ⟨rfl, hX, hXb⟩
  go_wp2_with fail
  refine calls_forget (W0 := X.alloc (.cells #[.int .i64 a0, .int .i64 0, .int .u64 0, .int .u64 0, .string ⟨#[]⟩, .int .u32 0, .int .i64 0, .int .i64 0, .int .i64 0] 69)) (CX w g B w.heap.size X.heap.size t1 ⟨a0, 0, 0, 0, ⟨#[]⟩, noNet⟩) (CX.start a0 hg hgw HLE.out hVb hVh hVs HEV.out hX hXb) ?_
  obtain ⟨r2, hr2⟩ : ∃ r, r = X.heap.size := ⟨_, rfl⟩
  rw [← hr2]
  clear hX hXb hr2 HR0 hti hV hV2 hVh hVb hVs HEV
  intro Y hY
  have HC := hide hY
  clear hY
  refine (nextX HT2.out HX1.out g B _ HC.out.words).mono ?_
  rintro e Y1 ⟨rfl, hw1, hw2⟩
  replace HC := hide (HC.out.step hg hw1 hw2)
  clear hw1 hw2
  go_wp2_with fail
  refine (HF _ HC.out.ev).mono ?_
  rintro e Y2 ⟨rfl, hw1⟩
  replace HC := hide (HC.out.on hg hw1)
  clear hw1 HF
  have cj := HC.out.cell 1
  have fj := HC.out.fro 1
  simp only [condC, noNet, List.getElem?_toArray, List.getElem?_cons_zero, List.getElem?_cons_succ] at cj
  have HS := hide (HC.out.set 1 (.int .i64 (op : Nat)) ⟨a0, (op : Nat), 0, 0, ⟨#[]⟩, noNet⟩ (by rfl))
  clear HC
  by_cases h8 : op = 8
  · subst h8
    have HV := hide (HRC.out.trans (if_pos rfl))
    clear HRC
    go_wp2_with fail
    refine calls_forget (W0 := Y2.setCell ⟨r2, 1, none⟩ (.int .i64 8)) (CX w g B w.heap.size r2 t2 ⟨a0, (8 : Nat), 0, 0, ⟨#[]⟩, noNet⟩) HS.out ?_
    clear HS cj fj
    intro Y3 hY
    have HC := hide hY
    clear hY
    have hsm : x2.length ≤ 9000 := by have := head_small HC.out.words; rwa [← HX2.out] at this
    refine (nextX HT3.out HX2.out g B _ HC.out.words).mono ?_
    rintro e Y4 ⟨rfl, hw1, hw2⟩
    replace HC := hide (HC.out.step hg hw1 hw2)
    clear hw1 hw2
    obtain ⟨q, hq⟩ : ∃ q, q = bs x2 := ⟨_, rfl⟩
    have hqs : q.size ≤ 9000 := by rw [hq, bs_size]; exact hsm
    have HQ := hide (show q.data.toList = x2 by rw [hq, bs_data])
    rw [← hq]
    clear hq hsm
    go_wp2_with fail
    refine (Tryz.strings_Trim_one q 34 (by decide) _ (by omega)).mono ?_
    rw [HQ.out]
    obtain ⟨z, hz⟩ : ∃ z : ByteArray, z = ⟨(trimQ x2).toArray⟩ := ⟨_, rfl⟩
    have hzs : z.size ≤ 9000 := by rw [hz]; exact trimQ_size (by rw [← HQ.out, ← Lib.size_eq]; exact hqs)
    rw [show (⟨(Lib.trimB x2 34).toArray⟩ : ByteArray) = z from hz.symm]
    rw [← hz] at HV
    clear hz
    rintro e Y5 ⟨rfl, hw1⟩
    replace HC := hide (HC.out.on hg (trim_below hw1))
    clear hw1
    go_wp2_with fail
    refine (sclone_any z (by omega) _).mono ?_
    rintro e Y6 ⟨rfl, hw1⟩
    replace HC := hide (HC.out.on hg hw1)
    clear hw1
    have c0 := HC.out.cell 0
    have c1 := HC.out.cell 1
    have c2 := HC.out.cell 2
    have c3 := HC.out.cell 3
    have c4 := HC.out.cell 4
    have c5 := HC.out.cell 5
    have c6 := HC.out.cell 6
    have c7 := HC.out.cell 7
    have c8 := HC.out.cell 8
    simp only [condC, noNet, List.getElem?_toArray, List.getElem?_cons_zero, List.getElem?_cons_succ] at c0 c1 c2 c3 c4 c5 c6 c7 c8
    have f4 := HC.out.fro 4
    have HS := hide (HC.out.set 4 (.string z) ⟨a0, (8 : Nat), 0, 0, z, noNet⟩ (by rfl))
    have hres := HS.out.res
    obtain ⟨cc, hcc⟩ : ∃ cc, cc = condC ⟨a0, (8 : Nat), 0, 0, z, noNet⟩ := ⟨_, rfl⟩
    have h1c : cc.all (·.oneCell') = true := by rw [hcc]; exact condC_one _
    go_wp2_with (refine wpList_store_row rfl 69 _ _ rfl w.heap.size cc rfl (by rw [hcc]; rfl) 69 _ hres (by rw [hcc]; exact size_cond) (by rw [hcc]; rfl) h1c ?_)
    refine bodyPost_ret (v := .agg cc) (results_cell_row rfl _ _ w.heap.size 69 cc (0, 0) _ rfl (setRow_heap _ _ _ _ _ _ hres) Tryz.underlying69 rfl (by rw [hcc]; exact size_cond)) rfl ⟨?_, ?_, ?_⟩
    · rw [HV.out, hcc]; rfl
    · rw [HV.out]; exact (HS.out.done _).1
    · exact (HS.out.done _).2
  have n8 : ¬ (op : Int) = 8 := by omega
  by_cases h7 : op = 7
  · subst h7
    have HV := hide (HRC.out.trans ((if_neg (by omega)).trans ((if_neg (by omega)).trans (if_pos rfl))))
    clear HRC
    go_wp2_with fail
    refine calls_forget (W0 := Y2.setCell ⟨r2, 1, none⟩ (.int .i64 7)) (CX w g B w.heap.size r2 t2 ⟨a0, (7 : Nat), 0, 0, ⟨#[]⟩, noNet⟩) HS.out ?_
    clear HS cj fj
    intro Y3 hY
    have HC := hide hY
    clear hY
    refine (numX HT3.out HUM.out g B hg _ HC.out.words HC.out.ev).mono ?_
    rintro e Y4 ⟨rfl, hw1, hw2⟩
    replace HC := hide (HC.out.step hg hw1 hw2)
    clear hw1 hw2
    have cj := HC.out.cell 3
    have fj := HC.out.fro 3
    simp only [condC, noNet, List.getElem?_toArray, List.getElem?_cons_zero, List.getElem?_cons_succ] at cj
    have HS := hide (HC.out.set 3 (.int .u64 um) ⟨a0, (7 : Nat), 0, um, ⟨#[]⟩, noNet⟩ (by rfl))
    clear HC
    go_wp2_with fail
    refine calls_forget (W0 := Y4.setCell ⟨r2, 3, none⟩ (.int .u64 um)) (CX w g B w.heap.size r2 t3 ⟨a0, (7 : Nat), 0, um, ⟨#[]⟩, noNet⟩) HS.out ?_
    clear HS cj fj
    intro Y5 hY
    have HC := hide hY
    clear hY
    have hsm : x3.length ≤ 9000 := by have := head_small HC.out.words; rwa [← HX3.out] at this
    refine (nextX HT4.out HX3.out g B _ HC.out.words).mono ?_
    rintro e Y6 ⟨rfl, hw1, hw2⟩
    replace HC := hide (HC.out.step hg hw1 hw2)
    clear hw1 hw2
    clear hsm
    go_wp2_with fail
    refine (numX HT5.out HUV.out g B hg _ HC.out.words HC.out.ev).mono ?_
    rintro e Y7 ⟨rfl, hw1, hw2⟩
    replace HC := hide (HC.out.step hg hw1 hw2)
    clear hw1 hw2
    have c0 := HC.out.cell 0
    have c1 := HC.out.cell 1
    have c2 := HC.out.cell 2
    have c3 := HC.out.cell 3
    have c4 := HC.out.cell 4
    have c5 := HC.out.cell 5
    have c6 := HC.out.cell 6
    have c7 := HC.out.cell 7
    have c8 := HC.out.cell 8
    simp only [condC, noNet, List.getElem?_toArray, List.getElem?_cons_zero, List.getElem?_cons_succ] at c0 c1 c2 c3 c4 c5 c6 c7 c8
    have f2 := HC.out.fro 2
    have HS := hide (HC.out.set 2 (.int .u64 uv) ⟨a0, (7 : Nat), uv, um, ⟨#[]⟩, noNet⟩ (by rfl))
    have hres := HS.out.res
    obtain ⟨cc, hcc⟩ : ∃ cc, cc = condC ⟨a0, (7 : Nat), uv, um, ⟨#[]⟩, noNet⟩ := ⟨_, rfl⟩
    have h1c : cc.all (·.oneCell') = true := by rw [hcc]; exact condC_one _
    go_wp2_with (refine wpList_store_row rfl 69 _ _ rfl w.heap.size cc rfl (by rw [hcc]; rfl) 69 _ hres (by rw [hcc]; exact size_cond) (by rw [hcc]; rfl) h1c ?_)
    refine bodyPost_ret (v := .agg cc) (results_cell_row rfl _ _ w.heap.size 69 cc (0, 0) _ rfl (setRow_heap _ _ _ _ _ _ hres) Tryz.underlying69 rfl (by rw [hcc]; exact size_cond)) rfl ⟨?_, ?_, ?_⟩
    · rw [HV.out, hcc]; rfl
    · rw [HV.out]; exact (HS.out.done _).1
    · exact (HS.out.done _).2
  have n7 : ¬ (op : Int) = 7 := by omega
  by_cases h9 : op = 9
  · subst h9
    have HV := hide (HRC.out.trans ((if_neg (by omega)).trans (if_pos rfl)))
    clear HRC
    go_wp2_with fail
    refine calls_forget (W0 := Y2.setCell ⟨r2, 1, none⟩ (.int .i64 9)) (CX w g B w.heap.size r2 t2 ⟨a0, (9 : Nat), 0, 0, ⟨#[]⟩, noNet⟩) HS.out ?_
    clear HS cj fj
    intro Y3 hY
    have HC := hide hY
    clear hY
    have hsm : x2.length ≤ 9000 := by have := head_small HC.out.words; rwa [← HX2.out] at this
    refine (nextX HT3.out HX2.out g B _ HC.out.words).mono ?_
    rintro e Y4 ⟨rfl, hw1, hw2⟩
    replace HC := hide (HC.out.step hg hw1 hw2)
    clear hw1 hw2
    have HP := fun X => aparse_any (bs x2) (by rw [bs_size]; omega) X
    rw [bs_data] at HP
    obtain ⟨q, hq⟩ : ∃ q, q = bs x2 := ⟨_, rfl⟩
    rw [← hq] at HP ⊢
    clear hq hsm
    go_wp2_with fail
    refine (HP _).mono ?_
    rintro e Y5 ⟨rfl, hw1⟩
    replace HC := hide (HC.out.on hg hw1)
    clear hw1 HP
    obtain ⟨ip, b, lo, hi, er, hpv, hnr⟩ := parseV_net x2
    rw [hpv]
    rw [hnr] at HV
    clear hpv hnr
    have c0 := HC.out.cell 0
    have c1 := HC.out.cell 1
    have c2 := HC.out.cell 2
    have c3 := HC.out.cell 3
    have c4 := HC.out.cell 4
    have c5 := HC.out.cell 5
    have c6 := HC.out.cell 6
    have c7 := HC.out.cell 7
    have c8 := HC.out.cell 8
    simp only [condC, noNet, List.getElem?_toArray, List.getElem?_cons_zero, List.getElem?_cons_succ] at c0 c1 c2 c3 c4 c5 c6 c7 c8
    have f5 := HC.out.fro 5
    have f6 := HC.out.fro 6
    have f7 := HC.out.fro 7
    have f8 := HC.out.fro 8
    have HS := hide ((((HC.out.set 5 (.int .u32 ip) ⟨a0, (9 : Nat), 0, 0, ⟨#[]⟩, ⟨ip, 0, 0, 0⟩⟩ (by rfl)).set 6 (.int .i64 b) ⟨a0, (9 : Nat), 0, 0, ⟨#[]⟩, ⟨ip, b, 0, 0⟩⟩ (by rfl)).set 7 (.int .i64 lo) ⟨a0, (9 : Nat), 0, 0, ⟨#[]⟩, ⟨ip, b, lo, 0⟩⟩ (by rfl)).set 8 (.int .i64 hi) ⟨a0, (9 : Nat), 0, 0, ⟨#[]⟩, ⟨ip, b, lo, hi⟩⟩ (by rfl))
    have hres := HS.out.res
    obtain ⟨cc, hcc⟩ : ∃ cc, cc = condC ⟨a0, (9 : Nat), 0, 0, ⟨#[]⟩, ⟨ip, b, lo, hi⟩⟩ := ⟨_, rfl⟩
    have h1c : cc.all (·.oneCell') = true := by rw [hcc]; exact condC_one _
    go_wp2_with (refine wpList_store_row rfl 69 _ _ rfl w.heap.size cc rfl (by rw [hcc]; rfl) 69 _ hres (by rw [hcc]; exact size_cond) (by rw [hcc]; rfl) h1c ?_)
    refine bodyPost_ret (v := .agg cc) (results_cell_row rfl _ _ w.heap.size 69 cc (0, 0) _ rfl (setRow_heap _ _ _ _ _ _ hres) Tryz.underlying69 rfl (by rw [hcc]; exact size_cond)) rfl ⟨?_, ?_, ?_⟩
    · rw [HV.out, hcc]; rfl
    · rw [HV.out]; exact (HS.out.done _).1
    · exact (HS.out.done _).2
  have n9 : ¬ (op : Int) = 9 := by omega
  have HV := hide (HRC.out.trans ((if_neg h8).trans ((if_neg h9).trans (if_neg h7))))
  clear HRC h7 h8 h9
  go_wp2_with fail
  refine calls_forget (W0 := Y2.setCell ⟨r2, 1, none⟩ (.int .i64 (op : Nat))) (CX w g B w.heap.size r2 t2 ⟨a0, (op : Nat), 0, 0, ⟨#[]⟩, noNet⟩) HS.out ?_
  clear HS cj fj
  intro Y3 hY
  have HC := hide hY
  clear hY
  refine (numX HT3.out HUM.out g B hg _ HC.out.words HC.out.ev).mono ?_
  rintro e Y4 ⟨rfl, hw1, hw2⟩
  replace HC := hide (HC.out.step hg hw1 hw2)
  clear hw1 hw2
  have c0 := HC.out.cell 0
  have c1 := HC.out.cell 1
  have c2 := HC.out.cell 2
  have c3 := HC.out.cell 3
  have c4 := HC.out.cell 4
  have c5 := HC.out.cell 5
  have c6 := HC.out.cell 6
  have c7 := HC.out.cell 7
  have c8 := HC.out.cell 8
  simp only [condC, noNet, List.getElem?_toArray, List.getElem?_cons_zero, List.getElem?_cons_succ] at c0 c1 c2 c3 c4 c5 c6 c7 c8
  have f2 := HC.out.fro 2
  have HS := hide (HC.out.set 2 (.int .u64 um) ⟨a0, (op : Nat), um, 0, ⟨#[]⟩, noNet⟩ (by rfl))
  have hres := HS.out.res
  obtain ⟨cc, hcc⟩ : ∃ cc, cc = condC ⟨a0, (op : Nat), um, 0, ⟨#[]⟩, noNet⟩ := ⟨_, rfl⟩
  have h1c : cc.all (·.oneCell') = true := by rw [hcc]; exact condC_one _
  go_wp2_with (refine wpList_store_row rfl 69 _ _ rfl w.heap.size cc rfl (by rw [hcc]; rfl) 69 _ hres (by rw [hcc]; exact size_cond) (by rw [hcc]; rfl) h1c ?_)
  refine bodyPost_ret (v := .agg cc) (results_cell_row rfl _ _ w.heap.size 69 cc (0, 0) _ rfl (setRow_heap _ _ _ _ _ _ hres) Tryz.underlying69 rfl (by rw [hcc]; exact size_cond)) rfl ⟨?_, ?_, ?_⟩
  · rw [HV.out, hcc]; rfl
  · rw [HV.out]; exact (HS.out.done _).1
  · exact (HS.out.done _).2
end Go.Proofs.YtkogafponpjdnaaGreatDoor

/- strings.Split at one byte. -/
namespace Go.Proofs.YtkogafponpjdnaaGreatDoor
open Go.RowKit Go.Sort

theorem indexByte_no (c : UInt8) : ∀ l : W8, c ∉ l → Lib.indexByte l c = -1
  | l, h => by
    cases hi : Lib.indexByte l c with
    | ofNat i =>
      have := (indexByte_split l c i hi)
      exact absurd (by rw [this.2]; simp) h
    | negSucc i =>
      have := Lib.index_ge l [c]
      rw [Lib.index_one, hi] at this
      omega
theorem splitK_C (c : UInt8) : ∀ (k : Nat) (l : W8), l.count c ≤ k → Lib.splitK [c] 0 k l = splitC c l
  | 0, l, h => by
    rw [splitC_self c l (List.count_eq_zero.1 (by omega))]
    rfl
  | k + 1, l, h => by
    by_cases hm : c ∈ l
    · obtain ⟨a, b, rfl, ha⟩ := List.eq_append_cons_of_mem hm
      have hix : Lib.index (a ++ c :: b) [c] = a.length := by rw [Lib.index_one, indexByte_app c b a ha]
      rw [Lib.splitK, hix, if_neg (by simp), splitC_app c b a ha]
      have e1 : (a ++ c :: b).take ((a.length : Int).toNat + 0) = a := by simp
      have e2 : (a ++ c :: b).drop ((a.length : Int).toNat + [c].length) = b := by simp [List.drop_append]
      rw [e1, e2, splitK_C c k b (by
        rw [List.count_append, List.count_cons_self] at h
        omega)]
    · have hix : Lib.index l [c] = -1 := by rw [Lib.index_one, indexByte_no c l hm]
      rw [Lib.splitK, hix, if_pos (by rfl), splitC_self c l hm]
theorem splitB_C (s : ByteArray) (c : UInt8) : (Lib.splitB ⟨#[c]⟩ 0 (Lib.countB s ⟨#[c]⟩) s) = (splitC c s.data.toList).map bs := by
  have h := Lib.splitB_data ⟨#[c]⟩ 0 (Lib.countB s ⟨#[c]⟩) s
  rw [show (⟨#[c]⟩ : ByteArray).data.toList = [c] from rfl, splitK_C c _ _ (by
    show s.data.toList.count c ≤ Lib.count s.data.toList [c]
    rw [Lib.count_one]
    exact Nat.le_refl _)] at h
  rw [← h, List.map_map]
  conv => lhs; rw [← List.map_id (Lib.splitB ⟨#[c]⟩ 0 (Lib.countB s ⟨#[c]⟩) s)]
  exact List.map_congr_left fun x _ => (bs_of x).symm
/-- The strings' cells. -/
def strsC (ws : List W8) : Array Value := (ws.map fun x => Value.string (bs x)).toArray
theorem split_any1 (s : ByteArray) (c : UInt8) (hs : s.size ≤ 9000) (w : World) (hE : EV w) : Calls Tryz.prog 56 #[.string s, .string ⟨#[c]⟩] w fun e w' => e = .returned (.slice (some ⟨w.heap.size, 0, none⟩) (splitC c s.data.toList).length (splitC c s.data.toList).length) ∧ w' = w.alloc (.cells (strsC (splitC c s.data.toList)) 9) := by
  obtain ⟨m, hm⟩ := hE.maxl
  refine (Tryz.strings_Split s ⟨#[c]⟩ m w (by omega) hm (Nat.le_refl 1)).mono ?_
  rintro e w' ⟨rfl, rfl⟩
  have hl : Lib.countB s ⟨#[c]⟩ + 1 = (splitC c s.data.toList).length := by
    have := Lib.splitB_all ⟨#[c]⟩ (Nat.le_refl 1) 0 _ s rfl
    rw [splitB_C, List.length_map] at this
    exact this.symm
  rw [splitB_C, hl, List.map_map]
  exact ⟨rfl, rfl⟩
theorem split_small {c : UInt8} {l : W8} {n : Nat} (h : l.length ≤ n) : ∀ x ∈ splitC c l, x.length ≤ n := by
  have key : ∀ l : W8, ∀ x ∈ splitC c l, x.length ≤ l.length := by
    intro l
    induction l with
    | nil => intro x hx; simp [splitC] at hx; simp [hx]
    | cons y r ih =>
      intro x hx
      unfold splitC at hx
      split at hx
      · rcases List.mem_cons.1 hx with rfl | hx
        · simp
        · have := ih x hx; simp; omega
      · split at hx
        · rw [List.mem_singleton] at hx; subst hx; simp
        · rename_i p t he
          rcases List.mem_cons.1 hx with rfl | hx
          · have := ih p (by rw [he]; simp); simp; omega
          · have := ih x (by rw [he]; simp [hx]); simp; omega
  intro x hx
  exact Nat.le_trans (key l x hx) h
theorem split_len {c : UInt8} : ∀ l : W8, (splitC c l).length ≤ l.length + 1
  | [] => by simp [splitC]
  | y :: r => by
    have ih := split_len (c := c) r
    unfold splitC
    split
    · simp; omega
    · split
      · simp
      · rename_i p t he
        rw [he] at ih
        simp at ih ⊢
        omega
end Go.Proofs.YtkogafponpjdnaaGreatDoor

/- readRule. -/
namespace Go.Proofs.YtkogafponpjdnaaGreatDoor
open Go.RowKit Go.Sort

theorem numU_lt (x : W8) : numU x < 18446744073709551616 := by
  have key : ∀ (l : W8) (acc u : Nat), acc < 18446744073709551616 → Lib.parseUintM (2 ^ 64 - 1) acc l = .ok u → u < 18446744073709551616 := by
    intro l
    induction l with
    | nil =>
      intro acc u h1 h2
      simp only [Lib.parseUintM, Lib.NumEnd.ok.injEq] at h2
      omega
    | cons c r ih =>
      intro acc u h1 h2
      rw [Lib.parseUintM] at h2
      split at h2
      · split at h2
        · cases h2
        · split at h2
          · cases h2
          · exact ih _ u (by omega) h2
      · cases h2
  unfold numU
  cases h : Lib.parseUintB 64 x with
  | ok u =>
    unfold Lib.parseUintB at h
    split at h
    · cases h
    · exact key x 0 u (by omega) h
  | «syntax» => simp
  | range => simp
theorem toI_ok (n : Nat) : I64 (toI n) := by
  unfold I64 toI
  rw [IntKind.wrap_i64]
  omega
theorem findOp_le (x : W8) : findOp x ≤ 9 := by
  unfold findOp
  cases h : signW.findIdx? (· == x) with
  | none => simp
  | some i =>
    have := (find_some h).2
    simp [signW] at this ⊢
    omega
theorem netRead_ok (x : W8) : NtOk (netRead x) := by
  unfold netRead
  cases h : parseR x with
  | none => exact noNet_ok
  | some p =>
    obtain ⟨ip, b, lo, hi⟩ := p
    obtain ⟨hip, hf, _⟩ := parse_some h
    have hk := fault_ok hf
    exact ⟨hip, i64_nat (by omega), i64_nat (by omega), i64_nat (by omega)⟩
theorem readCond_ok (ws : List W8) : CdOk (readCond ws).1 := by
  have ho := findOp_le (ws.tail.headD [])
  unfold readCond
  simp only
  split
  · exact ⟨toI_ok _, i64_nat (by omega), by simp, by simp, noNet_ok⟩
  · split
    · exact ⟨toI_ok _, i64_nat (by omega), by simp, by simp, netRead_ok _⟩
    · split
      · exact ⟨toI_ok _, i64_nat (by omega), numU_lt _, numU_lt _, noNet_ok⟩
      · exact ⟨toI_ok _, i64_nat (by omega), numU_lt _, by simp, noNet_ok⟩
theorem readAct_ok (ws : List W8) : AcOk (readAct ws).1 := by
  unfold readAct
  split
  · exact ⟨i64_nat (k := 1) (by omega), i64_nat (k := 0) (by omega)⟩
  · split
    · exact ⟨i64_nat (k := 3) (by omega), i64_nat (k := 0) (by omega)⟩
    · split
      · exact ⟨i64_nat (k := 2) (by omega), toI_ok _⟩
      · exact ⟨i64_nat (k := 0) (by omega), i64_nat (k := 0) (by omega)⟩
theorem findCall_ok (x : W8) : I64 (findCall x) := by
  by_cases h : findCall x < 0
  · unfold findCall at h ⊢
    cases hf : nameW.findIdx? (· == x) with
    | none => unfold I64; simp
    | some i => rw [hf] at h; simp at h; omega
  · exact i64_small (by omega) (by have := (call_some h).2; omega)

/-- The cells of conds. -/
def flatC (cs : List CD) : List Value := cs.flatMap fun c => (condC c).toList
theorem flatC_len : ∀ cs : List CD, (flatC cs).length = cs.length * 9
  | [] => rfl
  | c :: r => by
    have := flatC_len r
    simp only [flatC, List.flatMap_cons, List.length_append, List.length_cons] at this ⊢
    rw [this, show (condC c).toList.length = 9 from rfl]
    omega
theorem flatC_snoc (cs : List CD) (c : CD) : flatC (cs ++ [c]) = flatC cs ++ (condC c).toList := by simp [flatC]
theorem flatC_get : ∀ (cs : List CD) (i : Nat) (c : CD) (j : Nat), cs[i]? = some c → j < 9 → (flatC cs)[i * 9 + j]? = (condC c).toList[j]?
  | [], i, c, j, h, _ => by simp at h
  | x :: r, 0, c, j, h, hj => by
    simp only [List.getElem?_cons_zero, Option.some.injEq] at h
    subst h
    simp only [flatC, List.flatMap_cons]
    rw [List.getElem?_append_left (by rw [show (condC x).toList.length = 9 from rfl]; omega)]
    congr 1
    omega
  | x :: r, i + 1, c, j, h, hj => by
    rw [List.getElem?_cons_succ] at h
    have ih := flatC_get r i c j h hj
    simp only [flatC, List.flatMap_cons] at ih ⊢
    rw [List.getElem?_append_right (by rw [show (condC x).toList.length = 9 from rfl]; omega), show (condC x).toList.length = 9 from rfl, show (i + 1) * 9 + j - 9 = i * 9 + j by omega]
    exact ih
theorem conds_owned {W : World} {base : Nat} {v : Value} {cs : List CD} (h : W.ownsRow base 69 9 v cs.length (flatC cs)) (hok : ∀ c ∈ cs, CdOk c) : ∃ oa cap, v = .slice oa cs.length cap ∧ cs.length ≤ cap ∧ cap ≤ maxLen ∧ IsConds oa cs W ∧ ∀ b off, oa = some ⟨b, off, none⟩ → base ≤ b ∧ b < W.heap.size := by
  have h' := h
  rcases h.2 with ⟨rfl, hn⟩ | ⟨g, cap, cur, rfl, hb, hg, h1, h2, h3, h4⟩
  · refine ⟨none, 0, by rw [hn], by omega, by unfold maxLen; omega, ⟨fun h0 => by omega⟩, fun b off e => by cases e⟩
  · refine ⟨_, cap, rfl, h1, h2, ⟨fun h0 => ⟨g, 0, rfl, (h'.lt g rfl).2, fun i c hc => ?_⟩⟩, fun b off e => by
      simp only [Option.some.injEq, Addr.mk.injEq] at e
      have := (h'.lt g rfl).2
      omega⟩
    have hcell : ∀ j u, j < 9 → (condC c).toList[j]? = some u → W.cell? ⟨g, 0 + i * 9 + j, none⟩ = some u := fun j u hj hu => by
      have h5 := h'.cells (g := g) rfl (i * 9 + j) u (by rw [flatC_get cs i c j hc hj]; exact hu)
      rwa [show (⟨g, 0, none⟩ : Addr).add (i * 9 + j) = ⟨g, 0 + i * 9 + j, none⟩ by unfold Addr.add; split <;> simp_all] at h5
    exact ⟨hcell 0 _ (by omega) rfl, hcell 1 _ (by omega) rfl, hcell 2 _ (by omega) rfl, hcell 3 _ (by omega) rfl, hcell 4 _ (by omega) rfl, hcell 5 _ (by omega) rfl, hcell 6 _ (by omega) rfl, hcell 7 _ (by omega) rfl, hcell 8 _ (by omega) rfl, hok c (List.mem_of_getElem? hc)⟩
theorem info_cond : ∃ i, Tryz.prog.info? 69 = some i ∧ i.zero = some (.agg (condC zeroCD)) ∧ i.size = 9 ∧ i.bytes = 80 := by
  have hz : (Tryz.prog.info? 69).map (·.zero) = some (some (.agg (condC zeroCD))) := by kernel_rfl
  have hs : (Tryz.prog.info? 69).map (·.size) = some 9 := by kernel_rfl
  have hb : (Tryz.prog.info? 69).map (·.bytes) = some 80 := by kernel_rfl
  cases hq : Tryz.prog.info? 69 with
  | none => rw [hq] at hs; simp at hs
  | some i =>
    rw [hq] at hz hs hb
    simp at hz hs hb
    exact ⟨i, rfl, hz, hs, hb⟩
theorem size_rule : (Tryz.prog.info? 65).map (·.size) = some 4 := by kernel_rfl

def ruleC (nr : Int) (sv : Value) (a : ACT) : Array Value := #[.int .i64 nr, sv, .int .i64 a.kind, .int .i64 a.errno]
/-- The world in the midst of readRule. -/
structure RX (w : World) (g B r1 r4 : Nat) (ws : List W8) (nr : Int) (cs : List CD) (a : ACT) (sv : Value) (X : World) : Prop where
  words : IsWords X g B ws
  below : Below w.heap.size w X
  res : X.heap[r1]? = some (.cells (ruleC 0 (.slice none 0 0) ⟨0, 0⟩) 65 (0, 0))
  row : X.heap[r4]? = some (.cells (ruleC nr sv a) 65 (0, 0))
  own : X.ownsRow (r4 + 1) 69 9 sv cs.length (flatC cs)
  le : w.heap.size ≤ r1 ∧ r1 < g ∧ g < B ∧ B ≤ r4 ∧ 7 ≤ g
  ev : EV X
theorem But.grown {g : Nat} {w w' : World} (h : But g w w') : w.grownBy w' (some g) := ⟨h.os, h.tape, h.output, h.size, fun k hk hn => h.block k hk (fun e => hn (by rw [e]))⟩
theorem RX.step {w : World} {g B r1 r4 : Nat} {ws ws' : List W8} {nr : Int} {cs : List CD} {a : ACT} {sv : Value} {X Y : World} (h : RX w g B r1 r4 ws nr cs a sv X) (hY : IsWords Y g B ws') (hb : But g X Y) : RX w g B r1 r4 ws' nr cs a sv Y := by
  have h1 := (Array.getElem?_eq_some_iff.1 h.res).1
  have h2 := (Array.getElem?_eq_some_iff.1 h.row).1
  have hl := h.le
  have hs := h.below.size
  refine ⟨hY, hb.below h.below (by omega) hs, (hb.block r1 h1 (by omega)).trans h.res, (hb.block r4 h2 (by omega)).trans h.row, h.own.kept hb.grown ?_, h.le, h.ev.but hl.2.2.2.2 hb⟩
  by_cases he : sv.ownBlock = some g
  · have := (h.own.lt g he).1
    omega
  · exact .inr he
end Go.Proofs.YtkogafponpjdnaaGreatDoor

/- readRule: the walk. -/
namespace Go.Proofs.YtkogafponpjdnaaGreatDoor
open Go.RowKit Go.Sort

theorem RX.on {w : World} {g B r1 r4 : Nat} {ws : List W8} {nr : Int} {cs : List CD} {a : ACT} {sv : Value} {X Y : World} (h : RX w g B r1 r4 ws nr cs a sv X) (hb : Below X.heap.size X Y) : RX w g B r1 r4 ws nr cs a sv Y := h.step (h.words.on hb) (But.of hb)
theorem RX.cell {w : World} {g B r1 r4 : Nat} {ws : List W8} {nr : Int} {cs : List CD} {a : ACT} {sv : Value} {X : World} (h : RX w g B r1 r4 ws nr cs a sv X) (j : Nat) : X.cell? ⟨r4, j, none⟩ = (ruleC nr sv a)[j]? := cell_of_row _ _ j _ _ _ h.row
theorem RX.fro {w : World} {g B r1 r4 : Nat} {ws : List W8} {nr : Int} {cs : List CD} {a : ACT} {sv : Value} {X : World} (h : RX w g B r1 r4 ws nr cs a sv X) (j : Nat) : X.frozen? ⟨r4, j, none⟩ = false := frozen_of_row _ _ j _ _ h.row
/-- Where the words' slice lies. -/
theorem words_len {X : World} {g B : Nat} {ws : List W8} (h : IsWords X g B ws) : ∃ oa cap, X.cell? ⟨g, 0, none⟩ = some (.slice oa ws.length cap) ∧ ws.length ≤ 9223372036854775807 := by
  obtain ⟨oa, cap, h1, h2, h3, _⟩ := h.ex
  unfold maxLen at h3
  exact ⟨oa, cap, h1, by omega⟩
/-- .. but for the conds' own row. -/
structure RX0 (w : World) (g B r1 r4 : Nat) (ws : List W8) (nr : Int) (a : ACT) (sv : Value) (X : World) : Prop where
  words : IsWords X g B ws
  below : Below w.heap.size w X
  res : X.heap[r1]? = some (.cells (ruleC 0 (.slice none 0 0) ⟨0, 0⟩) 65 (0, 0))
  row : X.heap[r4]? = some (.cells (ruleC nr sv a) 65 (0, 0))
  le : w.heap.size ≤ r1 ∧ r1 < g ∧ g < B ∧ B ≤ r4 ∧ 7 ≤ g
  ev : EV X
theorem RX.weak {w : World} {g B r1 r4 : Nat} {ws : List W8} {nr : Int} {cs : List CD} {a : ACT} {sv : Value} {X : World} (h : RX w g B r1 r4 ws nr cs a sv X) : RX0 w g B r1 r4 ws nr a sv X := ⟨h.words, h.below, h.res, h.row, h.le, h.ev⟩
theorem RX0.grown {w : World} {g B r1 r4 : Nat} {ws : List W8} {nr : Int} {a : ACT} {sv : Value} {X Y : World} {row : Option Nat} (h : RX0 w g B r1 r4 ws nr a sv X) (o : Obj) (hg : (X.alloc o).grownBy Y row) (hr : ∀ k, row = some k → r4 + 1 ≤ k) : RX0 w g B r1 r4 ws nr a sv Y := by
  have h4 := (Array.getElem?_eq_some_iff.1 h.row).1
  have hl := h.le
  have hb : ∀ k, k < X.heap.size → k ≤ r4 → Y.heap[k]? = X.heap[k]? := fun k hk hk4 => (hg.block k (by rw [World.size_alloc]; omega) (fun e => by have := hr k e.symm; omega)).trans ((box_below X o).block k hk)
  have hs : X.heap.size ≤ Y.heap.size := Nat.le_trans (box_below X o).size hg.size
  exact ⟨h.words.heap (Nat.le_trans h.words.le hs) fun k hk => hb k (Nat.lt_of_lt_of_le hk h.words.le) (by omega), h.below.trans ⟨hg.os, hg.tape, hg.output, hs, fun k hk => hb k (by have := h.below.size; omega) (by omega)⟩, (hb r1 (by omega) (by omega)).trans h.res, (hb r4 h4 (by omega)).trans h.row, h.le, h.ev.heap fun k hk => hb k (by have := h.ev.lt; omega) (by omega)⟩
/-- The row written anew, with other words or conds. -/
theorem RX0.set {w : World} {g B r1 r4 : Nat} {ws : List W8} {nr nr' : Int} {a : ACT} {sv sv' : Value} {X : World} (h : RX0 w g B r1 r4 ws nr a sv X) (j : Nat) (v : Value) (hc : (ruleC nr sv a).setIfInBounds j v = ruleC nr' sv' a) (cs' : List CD) (ho : X.ownsRow (r4 + 1) 69 9 sv' cs'.length (flatC cs')) :
    RX w g B r1 r4 ws nr' cs' a sv' (X.setCell ⟨r4, j, none⟩ v) := by
  have hl := h.le
  rw [setCell_eq_setRow _ _ j _ _ _ _ h.row, hc]
  have hs := h.below.size
  have hb4 : But r4 X (X.setRow r4 (ruleC nr' sv' a)) := ⟨rfl, rfl, rfl, by rw [row_size]; exact Nat.le_refl _, fun k _ hn => row_heap X r4 k _ hn⟩
  refine ⟨h.words.row (by omega) _, hb4.below h.below (by omega) hs, (setRow_other _ _ _ _ (by omega)).trans h.res, setRow_heap _ _ _ _ _ _ h.row, ho.kept hb4.grown ?_, h.le, h.ev.heap fun k hk => row_heap X r4 k _ (by omega)⟩
  by_cases he : sv'.ownBlock = some r4
  · have := (ho.lt r4 he).1
    omega
  · exact .inr he
theorem RX.done {w : World} {g B r1 r4 : Nat} {ws : List W8} {nr : Int} {cs : List CD} {a : ACT} {sv : Value} {X : World} (h : RX w g B r1 r4 ws nr cs a sv X) (v : Array Value) : Below w.heap.size w (X.setRow r1 v) ∧ (X.setRow r1 v).ownsRow (r4 + 1) 69 9 sv cs.length (flatC cs) := by
  have hl := h.le
  have hs := h.below.size
  have hb1 : But r1 X (X.setRow r1 v) := ⟨rfl, rfl, rfl, by rw [row_size]; exact Nat.le_refl _, fun k _ hn => row_heap X r1 k _ hn⟩
  refine ⟨hb1.below h.below (by omega) hs, h.own.kept hb1.grown ?_⟩
  by_cases he : sv.ownBlock = some r1
  · have := (h.own.lt r1 he).1
    omega
  · exact .inr he
/-- Words cut just now. -/
theorem words_new (V : World) (ws : List W8) (hs : ∀ x ∈ ws, x.length ≤ 9000) (hl : ws.length ≤ 9001) : IsWords ((V.alloc (.cells (strsC ws) 9)).alloc (.cells #[.slice (some ⟨V.heap.size, 0, none⟩) ws.length ws.length] 116)) (V.heap.size + 1) (V.heap.size + 2) ws := by
  have h1 := World.cell?_alloc_new (V.alloc (.cells (strsC ws) 9)) #[.slice (some ⟨V.heap.size, 0, none⟩) ws.length ws.length] 116 0
  rw [World.size_alloc] at h1
  refine ⟨⟨_, ws.length, h1, Nat.le_refl _, by unfold maxLen; omega, fun h0 => ⟨V.heap.size, 0, rfl, by omega, by omega, fun i x hi => ?_⟩⟩, ?_, by omega, by rw [World.size_alloc, World.size_alloc]; omega, hs⟩
  · refine keep_cell (box_below _ _) ?_
    rw [World.cell?_alloc_new]
    unfold strsC
    simp [hi]
  · have h2 := World.frozen?_alloc_new (V.alloc (.cells (strsC ws) 9)) #[.slice (some ⟨V.heap.size, 0, none⟩) ws.length ws.length] 116 0
    rwa [World.size_alloc] at h2
theorem RX.start {w V X : World} {ws : List W8} (a : ACT) (g : Nat) (hgV : g = w.heap.size + 2) (hVb : Below w.heap.size w V) (hVh : V.heap[w.heap.size]? = some (.cells (ruleC 0 (.slice none 0 0) ⟨0, 0⟩) 65 (0, 0))) (hVs : w.heap.size + 3 ≤ V.heap.size) (hEV : EV V) (h7 : 7 ≤ w.heap.size)
    (hX : IsWords X g (g + 1) ws) (hXb : But g V X) : RX w g (g + 1) w.heap.size X.heap.size ws 0 [] a (.slice none 0 0) (X.alloc (.cells (ruleC 0 (.slice none 0 0) a) 65)) := by
  have hs := hXb.size
  refine ⟨hX.on (box_below _ _), (hXb.below hVb (by omega) (by omega)).alloc (by omega) _, (((box_below X _).block w.heap.size (by omega)).trans (hXb.block w.heap.size (by omega) (by omega))).trans hVh, heap_alloc_new _ _, World.ownsRow_nil _ _ _ _, ⟨Nat.le_refl _, by omega, by omega, by omega, by omega⟩, (hEV.but (by omega) hXb).on (box_below _ _)⟩

theorem readConds_fuel : ∀ (n m : Nat) (l : List W8), l.length ≤ n → l.length ≤ m → readConds n l = readConds m l
  | 0, m, l, hn, _ => by
    rw [List.length_eq_zero_iff.1 (show l.length = 0 by omega)]
    cases m <;> simp [readConds]
  | n + 1, 0, l, _, hm => by
    rw [List.length_eq_zero_iff.1 (show l.length = 0 by omega)]
    simp [readConds]
  | n + 1, m + 1, l, hn, hm => by
    rw [readConds, readConds]
    by_cases h : l = []
    · rw [if_pos h, if_pos h]
    · have hp := List.length_pos_iff.2 h
      have hl := readCond_le l.tail
      rw [List.length_tail] at hl
      rw [if_neg h, if_neg h, readConds_fuel n m _ (by omega) (by omega)]
theorem readConds_step {l : List W8} (h : l ≠ []) : readConds l.length l = (readCond l.tail).1 :: readConds (readCond l.tail).2.length (readCond l.tail).2 := by
  have hp := List.length_pos_iff.2 h
  have hl := readCond_le l.tail
  rw [List.length_tail] at hl
  obtain ⟨n, hn⟩ : ∃ n, l.length = n + 1 := ⟨l.length - 1, by omega⟩
  rw [hn, readConds, if_neg h, readConds_fuel n _ _ (by omega) (Nat.le_refl _)]
theorem readAct_le (l : List W8) : (readAct l).2.length ≤ l.length := by
  unfold readAct
  split
  · simp
  · split
    · simp
    · split
      · simp; omega
      · simp
/-- How many words are left. -/
def lenAt (g : Nat) (w : World) : Nat := match w.cell? ⟨g, 0, none⟩ with
  | some (.slice _ n _) => n
  | _ => 0
theorem lenAt_words {X : World} {g B : Nat} {ws : List W8} (h : IsWords X g B ws) : lenAt g X = ws.length := by
  obtain ⟨oa, cap, h1, _⟩ := h.ex
  unfold lenAt
  rw [h1]

set_option maxHeartbeats 4000000 in
set_option maxRecDepth 100000 in
theorem readRule_any (line : W8) (hline : line.length ≤ 9000) (w : World) (hE : EV w) : Calls Tryz.prog 60 #[.string (bs line)] w fun e w' => (∃ oa cap, e = .returned (ruleV (readRule line) oa cap) ∧ (readRule line).conds.length ≤ cap ∧ cap ≤ maxLen ∧ IsConds oa (readRule line).conds w' ∧ ∀ b off, oa = some ⟨b, off, none⟩ → w.heap.size ≤ b ∧ b < w'.heap.size) ∧ Below w.heap.size w w' := by
  obtain ⟨ws, hws⟩ : ∃ ws, ws = splitC 32 line := ⟨_, rfl⟩
  have h7 := hE.lt
  obtain ⟨V0, hV0, hV0h, hV0b, hV0s⟩ : ∃ V, V = w.alloc (.cells #[.int .i64 0, .slice none 0 0, .int .i64 0, .int .i64 0] 65) ∧ V.heap[w.heap.size]? = some (.cells (ruleC 0 (.slice none 0 0) ⟨0, 0⟩) 65 (0, 0)) ∧ Below w.heap.size w V ∧ V.heap.size = w.heap.size + 1 := ⟨_, rfl, heap_alloc_new _ _, box_below _ _, by rw [World.size_alloc]⟩
  have HS := split_any1 (bs line) 32 (by rw [bs_size]; exact hline) V0 (hE.on hV0b)
  rw [bs_data, ← hws] at HS
  have hwl : ws.length ≤ 9001 := by rw [hws]; have := split_len (c := 32) line; omega
  have hwsm : ∀ x ∈ ws, x.length ≤ 9000 := by rw [hws]; exact split_small hline
  obtain ⟨q, hq⟩ : ∃ q, q = bs line := ⟨_, rfl⟩
  rw [← hq] at HS ⊢
  obtain ⟨V, hV, hVw, hVb, hVh, hVs, hVE⟩ : ∃ V, V = (V0.alloc (.cells (strsC ws) 9)).alloc (.cells #[.slice (some ⟨V0.heap.size, 0, none⟩) ws.length ws.length] 116) ∧ IsWords V (w.heap.size + 2) (w.heap.size + 3) ws ∧ Below w.heap.size w V ∧ V.heap[w.heap.size]? = some (.cells (ruleC 0 (.slice none 0 0) ⟨0, 0⟩) 65 (0, 0)) ∧ w.heap.size + 3 ≤ V.heap.size ∧ EV V := by
    have hb2 : Below V0.heap.size V0 ((V0.alloc (.cells (strsC ws) 9)).alloc (.cells #[.slice (some ⟨V0.heap.size, 0, none⟩) ws.length ws.length] 116)) := below_next (box_below _ _) (box_below _ _)
    refine ⟨_, rfl, ?_, below_next hV0b hb2, (hb2.block _ (by omega)).trans hV0h, by rw [World.size_alloc, World.size_alloc]; omega, (hE.on hV0b).on hb2⟩
    rw [show w.heap.size + 2 = V0.heap.size + 1 by omega, show w.heap.size + 3 = V0.heap.size + 2 by omega]
    exact words_new V0 ws hwsm hwl
  obtain ⟨g, hg⟩ : ∃ g, g = w.heap.size + 2 := ⟨_, rfl⟩
  rw [← hg, show w.heap.size + 3 = g + 1 by omega] at hVw
  have HA := readAct_any ws g (g + 1) (by omega) V hVw hVE
  have HGG := hide hg
  clear hg
  obtain ⟨n0, hn0⟩ : ∃ n, n = ws.length := ⟨_, rfl⟩
  obtain ⟨a, ha⟩ : ∃ a, a = (readAct ws).1 := ⟨_, rfl⟩
  obtain ⟨t1, ht1⟩ : ∃ a, a = (readAct ws).2 := ⟨_, rfl⟩
  rw [← ha, ← ht1] at HA
  have hl1 : t1.length ≤ 9001 := by rw [ht1]; exact Nat.le_trans (readAct_le ws) hwl
  obtain ⟨x1, hx1⟩ : ∃ x, x = t1.headD [] := ⟨_, rfl⟩
  obtain ⟨t2, ht2⟩ : ∃ x, x = t1.tail := ⟨_, rfl⟩
  obtain ⟨nr, hnr⟩ : ∃ x, x = findCall x1 := ⟨_, rfl⟩
  have HFC := findCall_any x1
  rw [← hnr] at HFC
  have HRR := hide (show readRule line = ⟨nr, readConds t2.length t2, a⟩ by unfold readRule; simp only; rw [← hws, ← ha, ← ht1, hnr, hx1, ht2])
  have HT2 := hide ht2
  have HL2 := hide (show t2.length ≤ 9001 by rw [ht2, List.length_tail]; omega)
  clear hl1
  have HX1 := hide hx1
  rw [← hn0] at HS hV
  clear hws hq hE ha ht1 hx1 ht2 hnr hline hn0 hwl hwsm
  go_enter Tryz.func60, Tryz.ntmps60
  go_wp2_with fail
  rw [show w.alloc (Obj.cells #[.int .i64 0, .slice none 0 0, .int .i64 0, .int .i64 0] 65) = V0 from hV0.symm]
  refine HS.mono ?_
  rintro e W1 ⟨rfl, rfl⟩
  clear HS hV0
  go_wp2_with fail
  rw [hV0s] at hV
  rw [show (V0.alloc (.cells (strsC ws) 9)).alloc (.cells #[.slice (some ⟨w.heap.size + 1, 0, none⟩) n0 n0] 116) = V from hV.symm, show w.heap.size + 1 + 1 = g by have := HGG.out; omega]
  refine HA.mono ?_
  rintro e X ⟨rfl, hX, hXb⟩
  clear hV HA
  obtain ⟨ak, ae⟩ := a
  unfold actV
  simp only
  go_wp2_with fail
  refine calls_forget (W0 := X.alloc (.cells #[.int .i64 0, .slice none 0 0, .int .i64 ak, .int .i64 ae] 65)) (RX w g (g + 1) w.heap.size X.heap.size t1 0 [] ⟨ak, ae⟩ (.slice none 0 0)) (RX.start ⟨ak, ae⟩ g HGG.out hVb hVh hVs hVE h7 hX hXb) ?_
  obtain ⟨r4, hr4⟩ : ∃ r, r = X.heap.size := ⟨_, rfl⟩
  rw [← hr4]
  clear hX hXb hr4 hVw hVb hVh hVs hVE hV0h hV0b hV0s
  intro Y hY
  have HC := hide hY
  clear hY
  refine (nextX HT2.out HX1.out g (g + 1) Y HC.out.words).mono ?_
  rintro e Y1 ⟨rfl, hw1, hw2⟩
  replace HC := hide (HC.out.step hw1 hw2)
  clear hw1 hw2
  go_wp2_with fail
  refine (HFC _).mono ?_
  rintro e Y2 ⟨rfl, hw1⟩
  replace HC := hide (HC.out.on hw1)
  clear hw1 HFC
  have cj := HC.out.cell 0
  have fj := HC.out.fro 0
  simp only [ruleC, List.getElem?_toArray, List.getElem?_cons_zero] at cj
  have HS := hide (HC.out.weak.set 0 (.int .i64 nr) (nr' := nr) (sv' := .slice none 0 0) (by rfl) [] (World.ownsRow_nil _ _ _ _))
  clear HC
  obtain ⟨oaG, capG, cG, hmG⟩ := words_len HS.out.words
  go_wp2
  go_loopw [12] (fun _ w' => ∃ (ws' : List W8) (cs : List CD) (sv : Value), Hid (RX w g (g + 1) w.heap.size r4 ws' nr cs ⟨ak, ae⟩ sv w') ∧ Hid (cs ++ readConds ws'.length ws' = readConds t2.length t2) ∧ Hid (cs.length + ws'.length ≤ 9001) ∧ Hid (∀ c ∈ cs, CdOk c)) (fun _ w' => lenAt g w')
  case atStart => exact ⟨t2, [], .slice none 0 0, HS, hide rfl, hide (by have := HL2.out; simpa using this), hide (fun c hc => by cases hc)⟩
  case round =>
    obtain ⟨ws', cs, sv, HC, HI, HLN, HOK⟩ := hrel
    clear cG hmG HS cj fj
    obtain ⟨oa, cap, cg, hmx⟩ := words_len HC.out.words
    have hlen := lenAt_words HC.out.words
    obtain ⟨n', hn'⟩ : ∃ n, n = ws'.length := ⟨_, rfl⟩
    rw [← hn'] at cg hmx hlen
    have HN := hide hn'
    clear hn'
    by_cases hz : n' = 0
    · subst hz
      have hw0 : ws' = [] := List.length_eq_zero_iff.1 HN.out.symm
      have HCS := hide (show readRule line = ⟨nr, cs, ⟨ak, ae⟩⟩ by
        rw [HRR.out]
        have := HI.out
        rw [hw0] at this
        simp only [List.length_nil, readConds, List.append_nil] at this
        rw [← this])
      have c0 := HC.out.cell 0
      have c1 := HC.out.cell 1
      have c2 := HC.out.cell 2
      have c3 := HC.out.cell 3
      simp only [ruleC, List.getElem?_toArray, List.getElem?_cons_zero, List.getElem?_cons_succ] at c0 c1 c2 c3
      obtain ⟨oc, cc, hsv, hcl, hcm, _, _⟩ := conds_owned HC.out.own HOK.out
      subst hsv
      have hres := HC.out.res
      obtain ⟨rc, hrc⟩ : ∃ rc : Array Value, rc = ruleC nr (.slice oc cs.length cc) ⟨ak, ae⟩ := ⟨_, rfl⟩
      have h1c : rc.all (·.oneCell') = true := by rw [hrc]; simp [ruleC, Value.oneCell']
      clear hw0
      go_wp2_with (refine wpList_store_row rfl 65 _ _ rfl w.heap.size rc rfl (by rw [hrc]; rfl) 65 _ hres (by rw [hrc]; exact size_rule) (by rw [hrc]; rfl) h1c ?_)
      refine bodyPost_ret (v := .agg rc) (results_cell_row rfl _ _ w.heap.size 65 rc (0, 0) _ rfl (setRow_heap _ _ _ _ _ _ hres) Tryz.underlying65 rfl (by rw [hrc]; exact size_rule)) rfl ⟨?_, (HC.out.done _).1⟩
      obtain ⟨oc', cc', hsv', _, _, hIC, hbs⟩ := conds_owned (HC.out.done rc).2 HOK.out
      simp only [Value.slice.injEq] at hsv'
      obtain ⟨rfl, _, rfl⟩ := hsv'
      rw [HCS.out]
      exact ⟨oc, cc, by rw [hrc]; rfl, hcl, hcm, hIC, fun b off e => by
        have h1 := hbs b off e
        have h2 := HC.out.le
        exact ⟨by omega, h1.2⟩⟩
    · have i1 : (0 : Int) < n' := by omega
      have hne : ws' ≠ [] := fun e => hz (by rw [HN.out, e]; rfl)
      have hst := readConds_step hne
      obtain ⟨t3, ht3⟩ : ∃ t, t = ws'.tail := ⟨_, rfl⟩
      obtain ⟨x3, hx3⟩ : ∃ x, x = ws'.headD [] := ⟨_, rfl⟩
      obtain ⟨c, hc⟩ : ∃ c, c = (readCond t3).1 := ⟨_, rfl⟩
      obtain ⟨t4, ht4⟩ : ∃ t, t = (readCond t3).2 := ⟨_, rfl⟩
      have HRD := fun X h1 h2 => readCond_any t3 g (g + 1) HC.out.le.2.2.2.2 X h1 h2
      rw [← hc, ← ht4] at HRD
      have hcok : CdOk c := by rw [hc]; exact readCond_ok t3
      have hl4 : t4.length + 1 ≤ n' := by
        have h1 := readCond_le t3
        rw [← ht4, ht3, List.length_tail] at h1
        have := HN.out
        omega
      rw [← ht3, ← hc, ← ht4] at hst
      have HI2 := hide (show (cs ++ [c]) ++ readConds t4.length t4 = readConds t2.length t2 by rw [← HI.out, hst, List.append_assoc]; rfl)
      have HLN2 := hide (show (cs ++ [c]).length + t4.length ≤ 9001 by have h1 := HLN.out; have h2 := HN.out; rw [List.length_append, List.length_singleton]; omega)
      have HOK2 := hide (show ∀ y ∈ cs ++ [c], CdOk y from fun y hy => by
        rcases List.mem_append.1 hy with h | h
        · exact HOK.out y h
        · rw [List.mem_singleton] at h; rw [h]; exact hcok)
      have HT3 := hide ht3
      have HX3 := hide hx3
      have HL4 := hide hl4
      clear hst hc ht4 ht3 hx3 hcok hl4 hne HI HOK hz
      go_wp2_with fail
      refine (nextX HT3.out HX3.out g (g + 1) _ HC.out.words).mono ?_
      rintro e Y1 ⟨rfl, hw1, hw2⟩
      replace HC := hide ((HC.out.step hw1 hw2).on (Below.refl _ Y1).drew)
      clear hw1 hw2 cg
      obtain ⟨arg, op, v, m, gl, ⟨ip, bb, lo, hh⟩⟩ := c
      unfold condV at HRD
      simp only at HRD
      obtain ⟨inf, hi0, hz0, hz1, hz2⟩ := info_cond
      have cS := HC.out.cell 1
      simp only [ruleC, List.getElem?_toArray, List.getElem?_cons_zero, List.getElem?_cons_succ] at cS
      have hcl : cs.length ≤ 9001 := by have := HLN.out; omega
      go_wp2_with fail
      go_region_law
        (first
          | (go_simp; go_at_call 79; refine (HRD _ HC.out.words HC.out.ev).mono ?_; rintro e w1 ⟨rfl, hw1, hw2⟩; have HD := hide (HC.out.step hw1 hw2); have cD : w1.cell? ⟨r4, 1, none⟩ = some sv := HD.out.cell 1; have l4 : r4 < w1.heap.size := block_lt_of_cell cD; clear hw1 hw2)
          | (refine step_append_lies _ (by rfl) _ _ _ (by rfl) (r4 + 1) 69 inf _ 9 80 Tryz.underlying63 hi0 hz0 hz1 hz2 rfl (by omega) sv cs.length (flatC cs) (by rfl) (HD.out.own.alloc _)
                ⟨w1.heap.size, 0, none⟩ 1 1 [.int .i64 arg, .int .i64 op, .int .u64 v, .int .u64 m, .string gl, .int .u32 ip, .int .i64 bb, .int .i64 lo, .int .i64 hh] (by rfl) (by rfl) (World.news_of_block (cs := #[.int .i64 arg, .int .i64 op, .int .u64 v, .int .u64 m, .string gl, .int .u32 ip, .int .i64 bb, .int .i64 lo, .int .i64 hh]) (t := 69) (fr := (0, 0)) (heap_alloc_new w1 _)) (by simp [Value.oneCell'])
                (by omega) (by simp only [maxLen]; omega) (by omega) (by have := (Array.getElem?_eq_some_iff.1 HD.out.row).1; rw [World.size_alloc]; omega) (w1.heap.size + 1) (by simp) ?_; intro gg cap1 w2 hown1 hgrow hat hltt; have HW := hide (HD.out.weak.grown _ hgrow (fun k hk => (HD.out.own.lt k hk).1)); have HO := hide hown1; have cE : w2.cell? ⟨r4, 1, none⟩ = some sv := cell_of_row _ _ 1 _ _ _ HW.out.row; have fE : w2.frozen? ⟨r4, 1, none⟩ = false := frozen_of_row _ _ 1 _ _ HW.out.row; clear hown1 hgrow hat hltt))
      all_goals
        have HS2 := hide (HW.out.set 1 (.slice (some ⟨gg, 0, none⟩) (cs.length + 1) cap1) (nr' := nr) (sv' := .slice (some ⟨gg, 0, none⟩) (cs.length + 1) cap1) (by rfl) (cs ++ [⟨arg, op, v, m, gl, ⟨ip, bb, lo, hh⟩⟩]) (by rw [List.length_append, List.length_singleton, flatC_snoc]; exact HO.out))
        have hms : lenAt g (w2.setCell ⟨r4, 1, none⟩ (.slice (some ⟨gg, 0, none⟩) (cs.length + 1) cap1)) < lenAt g wr := by
          rw [lenAt_words HS2.out.words, hlen]
          have := HL4.out
          omega
        clear hlen cD cE fE l4 HO HW HD
        go_wp2
        go_round
        case rel => exact ⟨t4, _, _, HS2, HI2, HLN2, HOK2⟩
        case measure => exact hms
end Go.Proofs.YtkogafponpjdnaaGreatDoor

/- read: the laws. -/
namespace Go.Proofs.YtkogafponpjdnaaGreatDoor
open Go.RowKit Go.Sort

theorem readConds_ok : ∀ (n : Nat) (l : List W8), ∀ c ∈ readConds n l, CdOk c
  | 0, _, c, h => by cases h
  | n + 1, l, c, h => by
    rw [readConds] at h
    split at h
    · cases h
    · rcases List.mem_cons.1 h with rfl | h
      · exact readCond_ok _
      · exact readConds_ok n _ c h
theorem readRule_ok (line : W8) : RlOk (readRule line) := ⟨findCall_ok _, readConds_ok _ _, readAct_ok _⟩
theorem readP_ok (s : W8) : PlOk (readP s) := ⟨fun r hr => by
  unfold readP at hr
  obtain ⟨l, _, rfl⟩ := List.mem_map.1 hr
  exact readRule_ok l, readAct_ok _⟩

/-- A rule that was read, and where its conds lie. -/
abbrev RE := RL × Option Addr × Nat
def ruleE (e : RE) : Array Value := ruleC e.1.nr (.slice e.2.1 e.1.conds.length e.2.2) e.1.act
def flatR (es : List RE) : List Value := es.flatMap fun e => (ruleE e).toList
theorem flatR_snoc (es : List RE) (e : RE) : flatR (es ++ [e]) = flatR es ++ (ruleE e).toList := by simp [flatR]
theorem flatR_get : ∀ (es : List RE) (i : Nat) (e : RE) (j : Nat), es[i]? = some e → j < 4 → (flatR es)[i * 4 + j]? = (ruleE e).toList[j]?
  | [], i, e, j, h, _ => by simp at h
  | x :: r, 0, e, j, h, hj => by
    simp only [List.getElem?_cons_zero, Option.some.injEq] at h
    subst h
    simp only [flatR, List.flatMap_cons]
    rw [List.getElem?_append_left (by rw [show (ruleE x).toList.length = 4 from rfl]; omega)]
    congr 1
    omega
  | x :: r, i + 1, e, j, h, hj => by
    rw [List.getElem?_cons_succ] at h
    have ih := flatR_get r i e j h hj
    simp only [flatR, List.flatMap_cons] at ih ⊢
    rw [List.getElem?_append_right (by rw [show (ruleE x).toList.length = 4 from rfl]; omega), show (ruleE x).toList.length = 4 from rfl, show (i + 1) * 4 + j - 4 = i * 4 + j by omega]
    exact ih
theorem IsConds.heap {oa : Option Addr} {cs : List CD} {W V : World} (h : IsConds oa cs W) (hb : ∀ b off, oa = some ⟨b, off, none⟩ → b < W.heap.size → V.heap[b]? = W.heap[b]?) (hs : W.heap.size ≤ V.heap.size) : IsConds oa cs V :=
  ⟨fun h0 => by
    obtain ⟨b, off, h1, h2, h3⟩ := h.lie h0
    exact ⟨b, off, h1, Nat.lt_of_lt_of_le h2 hs, fun i c hi => (h3 i c hi).on fun j => cell_heap (hb b off h1 h2) j⟩⟩
/-- The conds of the rules lie where nothing is written any more. -/
def CondsOk (r5 : Nat) (sv : Value) (es : List RE) (X : World) : Prop := ∀ e ∈ es, RlOk e.1 ∧ IsConds e.2.1 e.1.conds X ∧ e.1.conds.length ≤ e.2.2 ∧ e.2.2 ≤ maxLen ∧ ∀ b off, e.2.1 = some ⟨b, off, none⟩ → r5 < b ∧ sv.ownBlock ≠ some b ∧ b < X.heap.size
theorem rules_owned {W : World} {base r5 : Nat} {v : Value} {es : List RE} (h : W.ownsRow base 65 4 v es.length (flatR es)) (hc : CondsOk r5 v es W) : ∃ oa cap, v = .slice oa es.length cap ∧ es.length ≤ cap ∧ cap ≤ maxLen ∧ IsRules oa (es.map (·.1)) W := by
  have h' := h
  rcases h.2 with ⟨rfl, hn⟩ | ⟨g, cap, cur, rfl, hb, hg, h1, h2, h3, h4⟩
  · exact ⟨none, 0, by rw [hn], by omega, by unfold maxLen; omega, ⟨fun h0 => by rw [List.length_map] at h0; omega⟩⟩
  · refine ⟨_, cap, rfl, h1, h2, ⟨fun h0 => ⟨g, 0, rfl, (h'.lt g rfl).2, fun i r hr => ?_⟩⟩⟩
    rw [List.getElem?_map] at hr
    cases he : es[i]? with
    | none => rw [he] at hr; cases hr
    | some e =>
      rw [he] at hr
      simp only [Option.map_some, Option.some.injEq] at hr
      subst hr
      have hcell : ∀ j u, j < 4 → (ruleE e).toList[j]? = some u → W.cell? ⟨g, 0 + i * 4 + j, none⟩ = some u := fun j u hj hu => by
        have h5 := h'.cells (g := g) rfl (i * 4 + j) u (by rw [flatR_get es i e j he hj]; exact hu)
        rwa [show (⟨g, 0, none⟩ : Addr).add (i * 4 + j) = ⟨g, 0 + i * 4 + j, none⟩ by unfold Addr.add; split <;> simp_all] at h5
      obtain ⟨q1, q2, q3, q4, _⟩ := hc e (List.mem_of_getElem? he)
      exact ⟨e.2.1, e.2.2, hcell 0 _ (by omega) rfl, hcell 1 _ (by omega) rfl, hcell 2 _ (by omega) rfl, hcell 3 _ (by omega) rfl, q2, q3, q4, q1⟩
theorem info_rule : ∃ i, Tryz.prog.info? 65 = some i ∧ i.zero = some (.agg (ruleC 0 (.slice none 0 0) ⟨0, 0⟩)) ∧ i.size = 4 ∧ i.bytes = 48 := by
  have hz : (Tryz.prog.info? 65).map (·.zero) = some (some (.agg (ruleC 0 (.slice none 0 0) ⟨0, 0⟩))) := by kernel_rfl
  have hs : (Tryz.prog.info? 65).map (·.size) = some 4 := by kernel_rfl
  have hb : (Tryz.prog.info? 65).map (·.bytes) = some 48 := by kernel_rfl
  cases hq : Tryz.prog.info? 65 with
  | none => rw [hq] at hs; simp at hs
  | some i =>
    rw [hq] at hz hs hb
    simp at hz hs hb
    exact ⟨i, rfl, hz, hs, hb⟩
theorem size_pol : (Tryz.prog.info? 26).map (·.size) = some 3 := by kernel_rfl

def polC (sv : Value) (a : ACT) : Array Value := #[sv, .int .i64 a.kind, .int .i64 a.errno]
/-- The world in the midst of read. -/
structure QX (w : World) (r1 r5 bl : Nat) (ls : List W8) (a : ACT) (sv : Value) (X : World) : Prop where
  below : Below w.heap.size w X
  res : X.heap[r1]? = some (.cells (polC (.slice none 0 0) ⟨0, 0⟩) 26 (0, 0))
  row : X.heap[r5]? = some (.cells (polC sv a) 26 (0, 0))
  lines : ∀ i x, ls[i]? = some x → X.cell? ⟨bl, i, none⟩ = some (.string (bs x))
  le : w.heap.size ≤ r1 ∧ r1 < bl ∧ bl < r5 ∧ 7 ≤ w.heap.size
  ev : EV X
theorem QX.heap {w : World} {r1 r5 bl : Nat} {ls : List W8} {a : ACT} {sv : Value} {X Y : World} (h : QX w r1 r5 bl ls a sv X) (ho : Y.os = X.os ∧ Y.tape = X.tape ∧ Y.output = X.output) (hs : X.heap.size ≤ Y.heap.size) (hb : ∀ k, k ≤ r5 → Y.heap[k]? = X.heap[k]?) : QX w r1 r5 bl ls a sv Y := by
  have hl := h.le
  exact ⟨h.below.trans ⟨ho.1, ho.2.1, ho.2.2, hs, fun k hk => hb k (by omega)⟩, (hb r1 (by omega)).trans h.res, (hb r5 (Nat.le_refl _)).trans h.row, fun i x hi => (cell_heap (hb bl (by omega)) i).trans (h.lines i x hi), h.le, h.ev.heap fun k hk => hb k (by omega)⟩
theorem QX.on {w : World} {r1 r5 bl : Nat} {ls : List W8} {a : ACT} {sv : Value} {X Y : World} (h : QX w r1 r5 bl ls a sv X) (hb : Below X.heap.size X Y) : QX w r1 r5 bl ls a sv Y :=
  h.heap ⟨hb.os, hb.tape, hb.output⟩ hb.size fun k hk => hb.block k (by have := (Array.getElem?_eq_some_iff.1 h.row).1; omega)
theorem QX.set {w : World} {r1 r5 bl : Nat} {ls : List W8} {a : ACT} {sv : Value} {X : World} (h : QX w r1 r5 bl ls a sv X) (sv' : Value) : QX w r1 r5 bl ls a sv' (X.setCell ⟨r5, 0, none⟩ sv') := by
  have hl := h.le
  rw [setCell_eq_setRow _ _ 0 _ _ _ _ h.row, show (polC sv a).setIfInBounds 0 sv' = polC sv' a from rfl]
  have hb : ∀ k, k ≠ r5 → (X.setRow r5 (polC sv' a)).heap[k]? = X.heap[k]? := fun k hk => row_heap X r5 k _ hk
  exact ⟨h.below.trans ⟨rfl, rfl, rfl, by rw [row_size]; exact Nat.le_refl _, fun k hk => hb k (by omega)⟩, (hb r1 (by omega)).trans h.res, setRow_heap _ _ _ _ _ _ h.row, fun i x hi => (cell_heap (hb bl (by omega)) i).trans (h.lines i x hi), h.le, h.ev.heap fun k hk => hb k (by omega)⟩
/-- One rule more. -/
theorem condsOk_more {r5 : Nat} {sv : Value} {es : List RE} {X0 X1 Y : World} {e : RE} {o : Obj} {gg n cap : Nat} (h : CondsOk r5 sv es X0) (hb : Below X0.heap.size X0 X1) (he : RlOk e.1 ∧ IsConds e.2.1 e.1.conds X1 ∧ e.1.conds.length ≤ e.2.2 ∧ e.2.2 ≤ maxLen ∧ ∀ b off, e.2.1 = some ⟨b, off, none⟩ → X0.heap.size ≤ b ∧ b < X1.heap.size) (h5 : r5 < X0.heap.size)
    (hown : ∀ k, sv.ownBlock = some k → k < X0.heap.size) (hgrow : (X1.alloc o).grownBy Y sv.ownBlock) (hat : sv.ownBlock = some gg ∨ gg = X1.heap.size + 1) (V : World) (hV : ∀ k, k ≠ r5 → V.heap[k]? = Y.heap[k]?) (hVs : Y.heap.size ≤ V.heap.size) :
    CondsOk r5 (.slice (some ⟨gg, 0, none⟩) n cap) (es ++ [e]) V := by
  have hs1 := hb.size
  have hsY : X1.heap.size ≤ Y.heap.size := Nat.le_trans (box_below X1 o).size hgrow.size
  have hgg : ∀ b, b < X1.heap.size → sv.ownBlock ≠ some b → (Value.slice (some ⟨gg, 0, none⟩) n cap).ownBlock ≠ some b := fun b hb1 hb2 hc => by
    simp only [Value.ownBlock, Option.some.injEq] at hc
    subst hc
    rcases hat with h | h
    · exact hb2 h
    · omega
  intro x hx
  rcases List.mem_append.1 hx with hx | hx
  · obtain ⟨q1, q2, q3, q4, q5⟩ := h x hx
    refine ⟨q1, q2.heap (fun b off e0 hlt0 => ?_) (by omega), q3, q4, fun b off e0 => ?_⟩
    · obtain ⟨p1, p2, _⟩ := q5 b off e0
      rw [hV b (by omega), hgrow.block b (by rw [World.size_alloc]; omega) (fun e1 => p2 e1.symm), (box_below X1 o).block b (by omega), hb.block b hlt0]
    · obtain ⟨p1, p2, p3⟩ := q5 b off e0
      exact ⟨p1, hgg b (by omega) p2, by omega⟩
  · rw [List.mem_singleton] at hx
    subst hx
    obtain ⟨q1, q2, q3, q4, q5⟩ := he
    refine ⟨q1, q2.heap (fun b off e0 hlt0 => ?_) (by omega), q3, q4, fun b off e0 => ?_⟩
    · have p1 := q5 b off e0
      rw [hV b (by omega), hgrow.block b (by rw [World.size_alloc]; omega) (fun e1 => by have := hown b e1.symm; omega), (box_below X1 o).block b hlt0]
    · have p1 := q5 b off e0
      exact ⟨by omega, hgg b p1.2 (fun e1 => by have := hown b e1; omega), by omega⟩
end Go.Proofs.YtkogafponpjdnaaGreatDoor

/- read: the walk. -/
namespace Go.Proofs.YtkogafponpjdnaaGreatDoor
open Go.RowKit Go.Sort

theorem CondsOk.heap {r5 : Nat} {sv : Value} {es : List RE} {X Y : World} (h : CondsOk r5 sv es X) (hb : Below X.heap.size X Y) : CondsOk r5 sv es Y := fun e he => by
  obtain ⟨q1, q2, q3, q4, q5⟩ := h e he
  refine ⟨q1, q2.on hb, q3, q4, fun b off e0 => ?_⟩
  obtain ⟨p1, p2, p3⟩ := q5 b off e0
  exact ⟨p1, p2, Nat.lt_of_lt_of_le p3 hb.size⟩
theorem own_on {W V : World} {base size n : Nat} {e : TypeId} {v : Value} {xs : List Value} (h : W.ownsRow base e size v n xs) (hb : Below W.heap.size W V) : V.ownsRow base e size v n xs :=
  h.kept (row := none) ⟨hb.os, hb.tape, hb.output, hb.size, fun k hk _ => hb.block k hk⟩ (by
    cases hv : v.ownBlock with
    | none => exact .inl rfl
    | some k => exact .inr (by simp))
theorem own_but {W V : World} {base size n r : Nat} {e : TypeId} {v : Value} {xs : List Value} (h : W.ownsRow base e size v n xs) (hb : But r W V) (hr : r < base) : V.ownsRow base e size v n xs :=
  h.kept hb.grown (by
    by_cases he : v.ownBlock = some r
    · have := (h.lt _ he).1
      omega
    · exact .inr he)
theorem trimN_len (s : W8) : (trimN s).length ≤ s.length := by
  unfold trimN Lib.trimSuffix
  split
  · simp
  · exact Nat.le_refl _

set_option maxHeartbeats 4000000 in
set_option maxRecDepth 100000 in
theorem read_any (s : W8) (hsl : s.length ≤ 9000) (w : World) (hE : EV w) : Calls Tryz.prog 35 #[.string (bs s)] w fun e w' => (∃ oa cap, e = .returned (polV (readP s) oa cap) ∧ IsPol oa cap (readP s) w') ∧ Below w.heap.size w w' := by
  have h7 := hE.lt
  obtain ⟨V0, hV0, hV0h, hV0b, hV0s⟩ : ∃ V, V = w.alloc (.cells #[.slice none 0 0, .int .i64 0, .int .i64 0] 26) ∧ V.heap[w.heap.size]? = some (.cells (polC (.slice none 0 0) ⟨0, 0⟩) 26 (0, 0)) ∧ Below w.heap.size w V ∧ V.heap.size = w.heap.size + 1 := ⟨_, rfl, heap_alloc_new _ _, box_below _ _, by rw [World.size_alloc]⟩
  have HTR := fun X => Tryz.strings_TrimSuffix (bs s) ⟨#[10]⟩ X (by rw [bs_size]; omega)
  rw [bs_data, show (⟨#[10]⟩ : ByteArray).data.toList = [10] from rfl, show (⟨(Lib.trimSuffix s [10]).toArray⟩ : ByteArray) = bs (trimN s) from rfl] at HTR
  have htl := trimN_len s
  obtain ⟨tr, htr⟩ : ∃ t, t = trimN s := ⟨_, rfl⟩
  rw [← htr] at HTR htl
  have HS := split_any1 (bs tr) 10 (by rw [bs_size]; omega) V0 (hE.on hV0b)
  rw [bs_data] at HS
  obtain ⟨ls, hls⟩ : ∃ ls, ls = splitC 10 tr := ⟨_, rfl⟩
  rw [← hls] at HS
  have hlne : ls ≠ [] := by rw [hls]; exact splitC_ne _ _
  have hll : ls.length ≤ 9001 := by rw [hls]; have := split_len (c := 10) tr; omega
  have hlsm : ∀ x ∈ ls, x.length ≤ 9000 := by rw [hls]; exact split_small (by omega)
  obtain ⟨l0, hl0⟩ : ∃ l, l = ls.headD [] := ⟨_, rfl⟩
  have hl0s : l0.length ≤ 9000 := by
    rw [hl0]
    cases ls with
    | nil => simp
    | cons x r => exact hlsm x (by simp)
  obtain ⟨V1, hV1, hV1b, hV1s, hV1c⟩ : ∃ V, V = V0.alloc (.cells (strsC ls) 9) ∧ Below V0.heap.size V0 V ∧ V.heap.size = V0.heap.size + 1 ∧ ∀ i x, ls[i]? = some x → V.cell? ⟨V0.heap.size, i, none⟩ = some (.string (bs x)) := ⟨_, rfl, box_below _ _, by rw [World.size_alloc], fun i x hi => by rw [World.cell?_alloc_new]; unfold strsC; simp [hi]⟩
  rw [← hV1] at HS
  have hV1E : EV V1 := (hE.on hV0b).on hV1b
  have HS2 := split_any1 (bs l0) 32 (by rw [bs_size]; omega) V1 hV1E
  rw [bs_data] at HS2
  obtain ⟨ws, hws⟩ : ∃ ws, ws = splitC 32 l0 := ⟨_, rfl⟩
  rw [← hws] at HS2
  have hwl : ws.length ≤ 9001 := by rw [hws]; have := split_len (c := 32) l0; omega
  have hwsm : ∀ x ∈ ws, x.length ≤ 9000 := by rw [hws]; exact split_small hl0s
  have c00 := hV1c 0 l0 (by
    rw [hl0]
    cases ls with
    | nil => exact absurd rfl hlne
    | cons x r => rfl)
  obtain ⟨V, hV, hVw, hVb⟩ : ∃ V, V = (V1.alloc (.cells (strsC ws) 9)).alloc (.cells #[.slice (some ⟨V1.heap.size, 0, none⟩) ws.length ws.length] 116) ∧ IsWords V (V1.heap.size + 1) (V1.heap.size + 2) ws ∧ Below V1.heap.size V1 V := ⟨_, rfl, words_new V1 ws hwsm hwl, below_next (box_below _ _) (box_below _ _)⟩
  obtain ⟨g, hg⟩ : ∃ g, g = V1.heap.size + 1 := ⟨_, rfl⟩
  rw [← hg, show V1.heap.size + 2 = g + 1 by omega] at hVw
  obtain ⟨t1, ht1⟩ : ∃ t, t = ws.tail := ⟨_, rfl⟩
  obtain ⟨x0, hx0⟩ : ∃ x, x = ws.headD [] := ⟨_, rfl⟩
  have HN := nextX ht1 hx0 g (g + 1) V hVw
  obtain ⟨a, ha⟩ : ∃ a, a = (readAct t1).1 := ⟨_, rfl⟩
  have HAR := fun X h1 h2 => readAct_any t1 g (g + 1) (by omega) X h1 h2
  rw [← ha] at HAR
  have HRP := hide (show readP s = ⟨ls.tail.map readRule, a⟩ by unfold readP; rw [← htr, ← hls, ← hl0, ← hws, ← ht1, ← ha])
  have HNW := hide (show V0.heap.size = w.heap.size + 1 ∧ V1.heap.size = w.heap.size + 2 ∧ g = w.heap.size + 3 by omega)
  have HLN := hide hls
  have HLL := hide hll
  have HLS := hide hlsm
  have hVE := hV1E.on hVb
  obtain ⟨n0, hn0⟩ : ∃ n, n = ws.length := ⟨_, rfl⟩
  rw [← hn0] at HS2 hV
  obtain ⟨nl, hnl⟩ : ∃ n, n = ls.length := ⟨_, rfl⟩
  have hnl1 : 1 ≤ nl := by rw [hnl]; exact List.length_pos_iff.2 hlne
  rw [← hnl] at HS
  have HNL := hide hnl
  obtain ⟨q, hq⟩ : ∃ q, q = bs s := ⟨_, rfl⟩
  rw [← hq] at HTR ⊢
  obtain ⟨q1, hq1⟩ : ∃ q, q = bs tr := ⟨_, rfl⟩
  rw [← hq1] at HTR HS
  obtain ⟨q2, hq2⟩ : ∃ q, q = bs l0 := ⟨_, rfl⟩
  rw [← hq2] at HS2 c00
  rw [hV0s] at hV1s hV1c HS c00
  rw [hV1s] at HS2 hV
  have HV1C := hide hV1c
  clear hV1c
  clear hq hq1 hq2 hnl hn0 hls hll hlsm ha ht1 hx0 hws hl0 htr hwl hwsm hl0s hlne htl hsl hE hg
  go_enter Tryz.func35, Tryz.ntmps35
  go_wp2_with fail
  rw [show w.alloc (Obj.cells #[.slice none 0 0, .int .i64 0, .int .i64 0] 26) = V0 from hV0.symm]
  refine (HTR _).mono ?_
  rintro e W1 ⟨rfl, hW1⟩
  rw [hW1]
  clear hV0 HTR hW1
  go_wp2_with fail
  refine HS.mono ?_
  rintro e W1 ⟨rfl, hW1⟩
  rw [hW1]
  clear HS hV1 hW1
  go_wp2_with fail
  refine HS2.mono ?_
  rintro e W2 ⟨rfl, rfl⟩
  clear HS2
  go_wp2_with fail
  rw [show (V1.alloc (.cells (strsC ws) 9)).alloc (.cells #[.slice (some ⟨w.heap.size + 1 + 1, 0, none⟩) n0 n0] 116) = V from hV.symm, show w.heap.size + 1 + 1 + 1 = g by have := HNW.out; omega]
  refine HN.mono ?_
  rintro e X ⟨rfl, hX, hXb⟩
  clear hV HN
  go_wp2_with fail
  refine (HAR _ hX (hVE.but (by have := HNW.out; omega) hXb)).mono ?_
  rintro e Y ⟨rfl, hY, hYb⟩
  obtain ⟨ak, ae⟩ := a
  unfold actV
  simp only
  clear HAR
  have HQ := hide (show QX w w.heap.size Y.heap.size (w.heap.size + 1) ls ⟨ak, ae⟩ (.slice none 0 0) (Y.alloc (.cells #[.slice none 0 0, .int .i64 ak, .int .i64 ae] 26)) by
    have hb2 := hXb.trans hYb
    have hn := HNW.out
    have hs2 := hb2.size
    have hs3 := hVb.size
    have hbV : Below V0.heap.size V0 V := below_next hV1b hVb
    refine ⟨(hb2.below (below_next hV0b hbV) (by omega) (by omega)).alloc (by omega) _, ?_, heap_alloc_new _ _, fun i x hi => ?_, ⟨Nat.le_refl _, by omega, by omega, h7⟩, ((hVE.but (by omega) hb2)).on (box_below _ _)⟩
    · rw [(box_below Y _).block w.heap.size (by omega), hb2.block w.heap.size (by omega) (by omega), hbV.block w.heap.size (by omega)]
      exact hV0h
    · refine keep_cell (box_below _ _) (hb2.cell (by omega) (keep_cell hVb (HV1C.out i x hi))))
  obtain ⟨k, rfl⟩ : ∃ k, nl = k + 1 := ⟨nl - 1, by omega⟩
  clear hX hXb hY hYb hVE hVw hVb hV1E hV1b hV1s hV0h hV0b hV0s HNW hnl1 c00
  have hk9 : k ≤ 9000 := by have h1 := HNL.out; have h2 := HLL.out; omega
  go_wp2
  obtain ⟨r5, hr5⟩ : ∃ r, r = Y.heap.size := ⟨_, rfl⟩
  rw [← hr5] at HQ ⊢
  clear hr5
  go_loopw [20] (fun I w' => ∃ (i : Nat) (es : List RE) (sv : Value), i ≤ k ∧ I = .int .i64 i ∧ Hid (QX w w.heap.size r5 (w.heap.size + 1) ls ⟨ak, ae⟩ sv w') ∧ Hid (w'.ownsRow (r5 + 1) 65 4 sv es.length (flatR es)) ∧ Hid (CondsOk r5 sv es w') ∧ Hid (es.map (·.1) = (ls.tail.take i).map readRule) ∧ Hid (es.length = i)) (fun I _ => k - (intOf I).toNat)
  case atStart => exact ⟨0, [], .slice none 0 0, by omega, rfl, HQ, hide (World.ownsRow_nil _ _ _ _), hide (fun e he => by cases he), hide (by simp), hide rfl⟩
  case round =>
    obtain ⟨i, es, sv, hi, rfl, HC, HO, HK, HI, HEL⟩ := hrel
    clear HQ
    by_cases hlt : i < k
    · have hit : i + 1 < ls.length := by have := HNL.out; omega
      obtain ⟨x, hx⟩ : ∃ x, ls[i + 1]? = some x := ⟨_, List.getElem?_eq_getElem hit⟩
      have hxs := HLS.out x (List.mem_of_getElem? hx)
      have cx := HC.out.lines (i + 1) x hx
      have HRR := fun X hX => readRule_any x hxs X hX
      have hok := readRule_ok x
      have htk : (ls.tail.take (i + 1)).map readRule = (ls.tail.take i).map readRule ++ [readRule x] := by
        rw [List.take_add_one, show ls.tail[i]? = some x by rw [List.getElem?_tail]; exact hx, List.map_append]
        rfl
      obtain ⟨rr, hrr⟩ : ∃ r, r = readRule x := ⟨_, rfl⟩
      rw [← hrr] at HRR hok htk
      have HTK := hide htk
      have HROK := hide hok
      obtain ⟨q3, hq3⟩ : ∃ q, q = bs x := ⟨_, rfl⟩
      rw [← hq3] at HRR cx
      clear hq3 hrr hxs hx hit htk hok
      replace HC := hide (HC.out.on (Below.refl _ wr).drew)
      replace HO : Hid (wr.drew.ownsRow (r5 + 1) 65 4 sv es.length (flatR es)) := HO
      replace HK := hide (HK.out.heap (Below.refl _ wr).drew)
      have cS : wr.drew.cell? ⟨r5, 0, none⟩ = some sv := cell_of_row _ _ 0 _ _ _ HC.out.row
      obtain ⟨nr, cs, ⟨rk, re⟩⟩ := rr
      unfold ruleV at HRR
      simp only at HRR
      obtain ⟨inf, hi0, hz0, hz1, hz2⟩ := info_rule
      have hel : es.length ≤ 9000 := by have := HEL.out; omega
      have i1 : (0 : Int) ≤ (i : Int) + 1 := by omega
      have i2 : (i : Int) + 1 < (k : Int) + 1 := by omega
      have hw1 : IntKind.i64.wrap ((i : Int) + 1) = (i : Int) + 1 := by rw [IntKind.wrap_i64]; omega
      go_wp2_with fail
      go_region_law
        (first
          | (go_simp; go_at_call 60; refine (HRR _ HC.out.ev).mono ?_; rintro e w1 ⟨⟨oc, cc, rfl, hcl, hcm, hIC, hbs⟩, hb1⟩; have HD := hide (HC.out.on hb1); have cD : w1.cell? ⟨r5, 0, none⟩ = some sv := cell_of_row _ _ 0 _ _ _ HD.out.row; have cx2 := keep_cell hb1 cx; have l5 : r5 < w1.heap.size := block_lt_of_cell cD; have HOD := hide (own_on HO.out hb1); have HNEW := hide (And.intro hb1 (And.intro hcl (And.intro hcm (And.intro hIC hbs)))); clear hb1 hcl hcm hIC hbs)
          | (refine step_append_lies _ (by rfl) _ _ _ (by rfl) (r5 + 1) 65 inf _ 4 48 Tryz.underlying22 hi0 hz0 hz1 hz2 rfl (by omega) sv es.length (flatR es) (by rfl) (HOD.out.alloc _)
                ⟨w1.heap.size, 0, none⟩ 1 1 [.int .i64 nr, .slice oc cs.length cc, .int .i64 rk, .int .i64 re] (by rfl) (by rfl) (World.news_of_block (cs := #[.int .i64 nr, .slice oc cs.length cc, .int .i64 rk, .int .i64 re]) (t := 65) (fr := (0, 0)) (heap_alloc_new w1 _)) (by simp [Value.oneCell'])
                (by omega) (by simp only [maxLen]; omega) (by omega) (by rw [World.size_alloc]; omega) (w1.heap.size + 1) (by simp) ?_; intro gg cap1 w2 hown1 hgrow hat hltt; have HG := hide (And.intro hown1 (And.intro hgrow (And.intro hat hltt))); have HW := hide (HD.out.heap (Y := w2) ⟨hgrow.os, hgrow.tape, hgrow.output⟩ (Nat.le_trans (box_below w1 _).size hgrow.size) (fun k hk => (hgrow.block k (by rw [World.size_alloc]; omega) (fun e1 => by have := (HOD.out.lt k e1.symm).1; omega)).trans ((box_below w1 _).block k (by omega)))); have cE : w2.cell? ⟨r5, 0, none⟩ = some sv := cell_of_row _ _ 0 _ _ _ HW.out.row; have fE : w2.frozen? ⟨r5, 0, none⟩ = false := frozen_of_row _ _ 0 _ _ HW.out.row; clear hown1 hgrow hat hltt))
      all_goals
        have HS2 := hide (HW.out.set (.slice (some ⟨gg, 0, none⟩) (es.length + 1) cap1))
        have HO2 := hide (own_but (r := r5) (V := w2.setCell ⟨r5, 0, none⟩ (.slice (some ⟨gg, 0, none⟩) (es.length + 1) cap1)) HG.out.1 (But.set r5 0 w2 _) (by omega))
        have HK2 := hide (condsOk_more (e := (⟨nr, cs, ⟨rk, re⟩⟩, oc, cc)) (gg := gg) (n := es.length + 1) (cap := cap1) HK.out HNEW.out.1 ⟨HROK.out, HNEW.out.2.2.2.1, HNEW.out.2.1, HNEW.out.2.2.1, HNEW.out.2.2.2.2⟩ (block_lt_of_cell cS) (fun k hk => (HO.out.lt k hk).2) HG.out.2.1 HG.out.2.2.1 (w2.setCell ⟨r5, 0, none⟩ (.slice (some ⟨gg, 0, none⟩) (es.length + 1) cap1)) (fun k hk => Below.heap_setCell _ _ _ _ hk) (But.set r5 0 w2 _).size)
        have HI2 := hide (show (es ++ [((⟨nr, cs, ⟨rk, re⟩⟩ : RL), oc, cc)]).map (·.1) = (ls.tail.take (i + 1)).map readRule by rw [HTK.out, List.map_append, HI.out]; rfl)
        have HEL2 := hide (show (es ++ [((⟨nr, cs, ⟨rk, re⟩⟩ : RL), oc, cc)]).length = i + 1 by rw [List.length_append, List.length_singleton, HEL.out])
        replace HO2 : Hid ((w2.setCell ⟨r5, 0, none⟩ (.slice (some ⟨gg, 0, none⟩) (es.length + 1) cap1)).ownsRow (r5 + 1) 65 4 (.slice (some ⟨gg, 0, none⟩) (es.length + 1) cap1) (es ++ [((⟨nr, cs, ⟨rk, re⟩⟩ : RL), oc, cc)]).length (flatR (es ++ [((⟨nr, cs, ⟨rk, re⟩⟩ : RL), oc, cc)]))) := hide (by rw [List.length_append, List.length_singleton, flatR_snoc]; exact HO2.out)
        clear cD cE fE cx2 l5 HG HW HD HOD HNEW cS cx
        go_wp2
        go_round
        case rel => exact ⟨i + 1, _, _, by omega, by go_num, HS2, HO2, HK2, HI2, HEL2⟩
        case measure => simp [intOf]; omega
    · obtain rfl : i = k := by omega
      have HEQ := hide (show es.map (·.1) = ls.tail.map readRule by rw [HI.out, List.take_of_length_le (by have := HNL.out; rw [List.length_tail]; omega)])
      have c0 : wr.cell? ⟨r5, 0, none⟩ = some sv := cell_of_row _ _ 0 _ _ _ HC.out.row
      have c1 : wr.cell? ⟨r5, 1, none⟩ = some (.int .i64 ak) := cell_of_row _ _ 1 _ _ _ HC.out.row
      have c2 : wr.cell? ⟨r5, 2, none⟩ = some (.int .i64 ae) := cell_of_row _ _ 2 _ _ _ HC.out.row
      obtain ⟨oc, cc, hsv, hcl, hcm, _⟩ := rules_owned HO.out HK.out
      subst hsv
      have hres := HC.out.res
      obtain ⟨rc, hrc⟩ : ∃ rc : Array Value, rc = polC (.slice oc es.length cc) ⟨ak, ae⟩ := ⟨_, rfl⟩
      have h1c : rc.all (·.oneCell') = true := by rw [hrc]; simp [polC, Value.oneCell']
      go_wp2_with (refine wpList_store_row rfl 26 _ _ rfl w.heap.size rc rfl (by rw [hrc]; rfl) 26 _ hres (by rw [hrc]; exact size_pol) (by rw [hrc]; rfl) h1c ?_)
      have hl := HC.out.le
      have hb1 : ∀ k, k ≠ w.heap.size → (wr.setRow w.heap.size rc).heap[k]? = wr.heap[k]? := fun k hk => row_heap wr _ k _ hk
      have hBt : But w.heap.size wr (wr.setRow w.heap.size rc) := ⟨rfl, rfl, rfl, by rw [row_size]; exact Nat.le_refl _, fun k _ hn => hb1 k hn⟩
      refine bodyPost_ret (v := .agg rc) (results_cell_row rfl _ _ w.heap.size 26 rc (0, 0) _ rfl (setRow_heap _ _ _ _ _ _ hres) Tryz.underlying26 rfl (by rw [hrc]; exact size_pol)) rfl ⟨?_, hBt.below HC.out.below (Nat.le_refl _) HC.out.below.size⟩
      have hO2 := HO.out.kept hBt.grown (by
        by_cases he : (Value.slice oc es.length cc).ownBlock = some w.heap.size
        · have := (HO.out.lt _ he).1
          omega
        · exact .inr he)
      have hK2 : CondsOk r5 (.slice oc es.length cc) es (wr.setRow w.heap.size rc) := fun e he => by
        obtain ⟨q1, q2, q3, q4, q5⟩ := HK.out e he
        refine ⟨q1, q2.heap (fun b off e0 _ => hb1 b (by have := q5 b off e0; omega)) (by rw [row_size]; exact Nat.le_refl _), q3, q4, fun b off e0 => ?_⟩
        rw [row_size]
        exact q5 b off e0
      obtain ⟨oc', cc', hsv', _, _, hIR⟩ := rules_owned hO2 hK2
      simp only [Value.slice.injEq] at hsv'
      obtain ⟨rfl, _, rfl⟩ := hsv'
      have hok := readP_ok s
      rw [HRP.out] at hok ⊢
      rw [HEQ.out] at hIR
      have hle : (ls.tail.map readRule).length = es.length := by rw [← HEQ.out, List.length_map]
      exact ⟨oc, cc, by rw [hrc]; unfold polV; simp only; rw [hle]; rfl, ⟨hIR, by simp only; rw [hle]; exact hcl, hcm, hok⟩⟩
end Go.Proofs.YtkogafponpjdnaaGreatDoor
