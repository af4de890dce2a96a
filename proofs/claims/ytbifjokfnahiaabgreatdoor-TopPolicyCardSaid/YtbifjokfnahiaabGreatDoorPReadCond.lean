/- readCond. -/
import Derived.Test.YtbifjokfnahiaabGreatDoorK16
import Derived.Test.YtbifjokfnahiaabGreatDoorK14
namespace Go.Proofs.YtbifjokfnahiaabGreatDoor
open Go.RowKit Go.Sort

def condC (c : CD) : Array Value := #[.int .i64 c.arg, .int .i64 c.op, .int .u64 c.v, .int .u64 c.m, .string c.glob, .int .u32 c.net.ip, .int .i64 c.net.bits, .int .i64 c.net.lo, .int .i64 c.net.hi]
def zeroCD : CD := ⟨0, 0, 0, 0, ⟨#[]⟩, noNet⟩
theorem size_cond : (Tryz.prog.info? 60).map (·.size) = some 9 := by kernel_rfl
theorem condC_one (c : CD) : (condC c).all (·.oneCell') = true := by simp [condC, Value.oneCell']
/-- The world in the midst of readCond: the result's row at r1, x's row at r2. -/
structure CX (w : World) (g B r1 r2 : Nat) (ws : List W8) (c : CD) (X : World) : Prop where
  words : IsWords X g B ws
  but : But g w X
  res : X.heap[r1]? = some (.cells (condC zeroCD) 60 (0, 0))
  row : X.heap[r2]? = some (.cells (condC c) 60 (0, 0))
  le : w.heap.size ≤ r1 ∧ r1 < r2 ∧ g < w.heap.size ∧ B ≤ w.heap.size ∧ 7 ≤ g
  ev : EV X
theorem CX.step {w : World} {g B r1 r2 : Nat} {ws ws' : List W8} {c : CD} {X Y : World} (h : CX w g B r1 r2 ws c X) (hg : 7 ≤ g) (hY : IsWords Y g B ws') (hb : But g X Y) : CX w g B r1 r2 ws' c Y :=
  have h1 := (Array.getElem?_eq_some_iff.1 h.res).1
  have h2 := (Array.getElem?_eq_some_iff.1 h.row).1
  have hl := h.le
  ⟨hY, h.but.trans hb, (hb.block r1 h1 (by omega)).trans h.res, (hb.block r2 h2 (by omega)).trans h.row, h.le, h.ev.but hg hb⟩
theorem CX.on {w : World} {g B r1 r2 : Nat} {ws : List W8} {c : CD} {X Y : World} (h : CX w g B r1 r2 ws c X) (hg : 7 ≤ g) (hb : Below X.heap.size X Y) : CX w g B r1 r2 ws c Y := h.step hg (h.words.on hb) (But.of hb)
theorem CX.set {w : World} {g B r1 r2 : Nat} {ws : List W8} {c : CD} {X : World} (h : CX w g B r1 r2 ws c X) (j : Nat) (v : Value) (c' : CD) (hc : (condC c).setIfInBounds j v = condC c') : CX w g B r1 r2 ws c' (X.setCell ⟨r2, j, none⟩ v) := by
  have hl := h.le
  have h7 := h.ev.lt
  rw [setCell_eq_setRow _ _ j _ _ _ _ h.row, hc]
  refine ⟨h.words.row (by omega) _, h.but.row (by omega) _, (setRow_other _ _ _ _ (by omega)).trans h.res, setRow_heap _ _ _ _ _ _ h.row, h.le, ?_⟩
  exact h.ev.heap fun k hk => row_heap X r2 k _ (by have := h.words.le; have := h.words.lt; have := h.but.size; omega)
theorem CX.cell {w : World} {g B r1 r2 : Nat} {ws : List W8} {c : CD} {X : World} (h : CX w g B r1 r2 ws c X) (j : Nat) : X.cell? ⟨r2, j, none⟩ = (condC c)[j]? := cell_of_row _ _ j _ _ _ h.row
theorem CX.fro {w : World} {g B r1 r2 : Nat} {ws : List W8} {c : CD} {X : World} (h : CX w g B r1 r2 ws c X) (j : Nat) : X.frozen? ⟨r2, j, none⟩ = false := frozen_of_row _ _ j _ _ h.row

theorem CX.start {w V X : World} {g B : Nat} {ws : List W8} (a : Int) (hg : 7 ≤ g) (hgw : g < w.heap.size) (hB : B ≤ w.heap.size) (hVb : Below w.heap.size w V) (hVh : V.heap[w.heap.size]? = some (.cells (condC zeroCD) 60 (0, 0))) (hVs : w.heap.size < V.heap.size) (hEV : EV V)
    (hX : IsWords X g B ws) (hXb : But g V X) : CX w g B w.heap.size X.heap.size ws ⟨a, 0, 0, 0, ⟨#[]⟩, noNet⟩ (X.alloc (.cells (condC ⟨a, 0, 0, 0, ⟨#[]⟩, noNet⟩) 60)) :=
  have hs := hXb.size
  ⟨hX.on (box_below _ _), ((But.of hVb).trans hXb).trans (But.of (box_below _ _)), (((box_below X _).block w.heap.size (by omega)).trans (hXb.block w.heap.size hVs (by omega))).trans hVh, heap_alloc_new _ _, ⟨Nat.le_refl _, by omega, hgw, hB, hg⟩, (hEV.but hg hXb).on (box_below _ _)⟩
theorem CX.done {w : World} {g B r1 r2 : Nat} {ws : List W8} {c : CD} {X : World} (h : CX w g B r1 r2 ws c X) (cs : Array Value) : IsWords (X.setRow r1 cs) g B ws ∧ But g w (X.setRow r1 cs) :=
  ⟨h.words.row (by have := h.le; omega) _, h.but.row h.le.1 _⟩

theorem calls_forget {P : Program} {f : FuncId} {args : Array Value} {Q : Ending → World → Prop} {W0 : World} (F : World → Prop) (h : F W0) (H : ∀ W, F W → Calls P f args W Q) : Calls P f args W0 Q := H _ h
theorem trim_below {w w' : World} (h : w' = w ∨ w' = w.drew) : Below w.heap.size w w' := by
  rcases h with rfl | rfl
  · exact Below.refl _ _
  · exact (Below.refl _ _).drew
theorem parseV_net (x : W8) : ∃ (ip : Nat) (b lo hi : Int) (er : Value), parseV (parseR x) = .tuple #[netV ip b lo hi, er] ∧ netRead x = ⟨ip, b, lo, hi⟩ := by
  unfold netRead
  cases h : parseR x with
  | none => exact ⟨0, 0, 0, 0, _, rfl, rfl⟩
  | some p =>
    obtain ⟨ip, b, lo, hi⟩ := p
    exact ⟨ip, b, lo, hi, _, rfl, rfl⟩
theorem trimQ_size {x : W8} (h : x.length ≤ 9000) : (⟨(trimQ x).toArray⟩ : ByteArray).size ≤ 9000 := by
  have h1 : (trimQ x).length ≤ x.length := by
    unfold trimQ Lib.trimB Lib.trimLeftB Lib.trimRightB
    have e1 := (List.dropWhile_sublist (p := (· == (34 : UInt8))) (l := (List.dropWhile (· == (34 : UInt8)) x.reverse).reverse)).length_le
    have e2 := (List.dropWhile_sublist (p := (· == (34 : UInt8))) (l := x.reverse)).length_le
    simp only [List.length_reverse] at e1 e2
    omega
  simp only [ByteArray.size, List.size_toArray]
  omega

theorem nextX {ws t : List W8} {x : W8} (ht : t = ws.tail) (hx : x = ws.headD []) (g B : Nat) (w : World) (h : IsWords w g B ws) : Calls Tryz.prog 26 #[.pointer (some ⟨g, 0, none⟩)] w fun e w' => e = .returned (.string (bs x)) ∧ IsWords w' g B t ∧ But g w w' := by
  subst ht hx
  exact next_any ws g B w h
theorem numX {ws t : List W8} {u : Nat} (ht : t = ws.tail) (hu : u = numU (ws.headD [])) (g B : Nat) (hg : 7 ≤ g) (w : World) (h : IsWords w g B ws) (hE : EV w) : Calls Tryz.prog 40 #[.pointer (some ⟨g, 0, none⟩)] w fun e w' => e = .returned (.int .u64 u) ∧ IsWords w' g B t ∧ But g w w' := by
  subst ht hu
  exact readNum_any ws g B hg w h hE

set_option maxHeartbeats 4000000 in
theorem readCond_any (ws : List W8) (g B : Nat) (hg : 7 ≤ g) (w : World) (h : IsWords w g B ws) (hE : EV w) : Calls Tryz.prog 42 #[.pointer (some ⟨g, 0, none⟩)] w fun e w' => e = .returned (condV (readCond ws).1) ∧ IsWords w' g B (readCond ws).2 ∧ But g w w' := by
  obtain ⟨V, hV, hVh, hVb, hVs⟩ : ∃ V, V = w.alloc (.cells (condC zeroCD) 60) ∧ V.heap[w.heap.size]? = some (.cells (condC zeroCD) 60 (0, 0)) ∧ Below w.heap.size w V ∧ w.heap.size < V.heap.size := ⟨_, rfl, heap_alloc_new _ _, box_below _ _, by rw [World.size_alloc]; omega⟩
  have hgw : g < w.heap.size := Nat.lt_of_lt_of_le h.lt h.le
  obtain ⟨t1, ht1⟩ : ∃ t, t = ws.tail := ⟨_, rfl⟩
  obtain ⟨u0, hu0⟩ : ∃ u, u = numU (ws.headD []) := ⟨_, rfl⟩
  have HR0 := numX ht1 hu0 g B hg V (h.on hVb) (hE.on hVb)
  have HLE := hide h.le
  have HEV := hide (hE.on hVb)
  have hti : IntKind.i64.wrap (u0 : Int) = toI u0 := rfl
  obtain ⟨a0, ha0⟩ : ∃ t, t = toI u0 := ⟨_, rfl⟩
  rw [← ha0] at hti
  obtain ⟨x1, hx1⟩ : ∃ x, x = t1.headD [] := ⟨_, rfl⟩
  obtain ⟨t2, ht2⟩ : ∃ t, t = t1.tail := ⟨_, rfl⟩
  obtain ⟨x2, hx2⟩ : ∃ x, x = t2.headD [] := ⟨_, rfl⟩
  obtain ⟨um, hum⟩ : ∃ x, x = numU (t2.headD []) := ⟨_, rfl⟩
  obtain ⟨t3, ht3⟩ : ∃ t, t = t2.tail := ⟨_, rfl⟩
  obtain ⟨x3, hx3⟩ : ∃ x, x = t3.headD [] := ⟨_, rfl⟩
  obtain ⟨t4, ht4⟩ : ∃ t, t = t3.tail := ⟨_, rfl⟩
  obtain ⟨uv, huv⟩ : ∃ x, x = numU (t4.headD []) := ⟨_, rfl⟩
  obtain ⟨t5, ht5⟩ : ∃ t, t = t4.tail := ⟨_, rfl⟩
  obtain ⟨op, hop⟩ : ∃ o, o = findOp x1 := ⟨_, rfl⟩
  have HRC := hide (show readCond ws = if op = 8 then (⟨a0, op, 0, 0, ⟨(trimQ x2).toArray⟩, noNet⟩, t3)
      else if op = 9 then (⟨a0, op, 0, 0, ByteArray.empty, netRead x2⟩, t3)
      else if op = 7 then (⟨a0, op, uv, um, ByteArray.empty, noNet⟩, t5)
      else (⟨a0, op, um, 0, ByteArray.empty, noNet⟩, t3) by rw [ha0, hu0, hop, ht5, huv, ht4, hx1, hx2, hum, ht3, ht2, ht1]; rfl)
  have HF := fun X hX => findOp_any x1 X hX
  rw [← hop] at HF
  have HT2 := hide ht2
  have HX1 := hide hx1
  have HX2 := hide hx2
  have HX3 := hide hx3
  have HUM := hide hum
  have HT3 := hide ht3
  have HT4 := hide ht4
  have HT5 := hide ht5
  have HUV := hide huv
  clear hu0 ha0 hop h hE ht1 hx1 ht2 hx2 hum ht3 hx3 ht4 huv ht5
  unfold condC zeroCD noNet at hV
  simp only at hV
  go_enter Tryz.func42, Tryz.ntmps42
  go_wp2_with fail
  have hV2 := hV
  rw [show (w.alloc (Obj.cells #[.int .i64 0, .int .i64 0, .int .u64 0, .int .u64 0, .string ⟨#[]⟩, .int .u32 0, .int .i64 0, .int .i64 0, .int .i64 0] 60)) = V from hV2.symm]
  refine HR0.mono ?_
  rintro e X ⟨rfl, hX, hXb⟩
  go_wp2_with fail
  refine calls_forget (W0 := X.alloc (.cells #[.int .i64 a0, .int .i64 0, .int .u64 0, .int .u64 0, .string ⟨#[]⟩, .int .u32 0, .int .i64 0, .int .i64 0, .int .i64 0] 60)) (CX w g B w.heap.size X.heap.size t1 ⟨a0, 0, 0, 0, ⟨#[]⟩, noNet⟩) (CX.start a0 hg hgw HLE.out hVb hVh hVs HEV.out hX hXb) ?_
  obtain ⟨r2, hr2⟩ : ∃ r, r = X.heap.size := ⟨_, rfl⟩
  rw [← hr2]
  clear hX hXb hr2 HR0 hti hV hV2 hVh hVb hVs HEV
  intro Y hY
  have HC := hide hY
  clear hY
  refine (nextX HT2.out HX1.out g B _ HC.out.words).mono ?_
  rintro e Y1 ⟨rfl, hw1, hw2⟩
  replace HC := hide (HC.out.step hg hw1 hw2)
  clear hw1 hw2
  go_wp2_with fail
  refine (HF _ HC.out.ev).mono ?_
  rintro e Y2 ⟨rfl, hw1⟩
  replace HC := hide (HC.out.on hg hw1)
  clear hw1 HF
  have cj := HC.out.cell 1
  have fj := HC.out.fro 1
  simp only [condC, noNet, List.getElem?_toArray, List.getElem?_cons_zero, List.getElem?_cons_succ] at cj
  have HS := hide (HC.out.set 1 (.int .i64 (op : Nat)) ⟨a0, (op : Nat), 0, 0, ⟨#[]⟩, noNet⟩ (by rfl))
  clear HC
  by_cases h8 : op = 8
  · subst h8
    have HV := hide (HRC.out.trans (if_pos rfl))
    clear HRC
    go_wp2_with fail
    refine calls_forget (W0 := Y2.setCell ⟨r2, 1, none⟩ (.int .i64 8)) (CX w g B w.heap.size r2 t2 ⟨a0, (8 : Nat), 0, 0, ⟨#[]⟩, noNet⟩) HS.out ?_
    clear HS cj fj
    intro Y3 hY
    have HC := hide hY
    clear hY
    have hsm : x2.length ≤ 9000 := by have := head_small HC.out.words; rwa [← HX2.out] at this
    refine (nextX HT3.out HX2.out g B _ HC.out.words).mono ?_
    rintro e Y4 ⟨rfl, hw1, hw2⟩
    replace HC := hide (HC.out.step hg hw1 hw2)
    clear hw1 hw2
    obtain ⟨q, hq⟩ : ∃ q, q = bs x2 := ⟨_, rfl⟩
    have hqs : q.size ≤ 9000 := by rw [hq, bs_size]; exact hsm
    have HQ := hide (show q.data.toList = x2 by rw [hq, bs_data])
    rw [← hq]
    clear hq hsm
    go_wp2_with fail
    refine (Tryz.strings_Trim_one q 34 (by decide) _ (by omega)).mono ?_
    rw [HQ.out]
    obtain ⟨z, hz⟩ : ∃ z : ByteArray, z = ⟨(trimQ x2).toArray⟩ := ⟨_, rfl⟩
    have hzs : z.size ≤ 9000 := by rw [hz]; exact trimQ_size (by rw [← HQ.out, ← Lib.size_eq]; exact hqs)
    rw [show (⟨(Lib.trimB x2 34).toArray⟩ : ByteArray) = z from hz.symm]
    rw [← hz] at HV
    clear hz
    rintro e Y5 ⟨rfl, hw1⟩
    replace HC := hide (HC.out.on hg (trim_below hw1))
    clear hw1
    go_wp2_with fail
    refine (sclone_any z (by omega) _).mono ?_
    rintro e Y6 ⟨rfl, hw1⟩
    replace HC := hide (HC.out.on hg hw1)
    clear hw1
    have c0 := HC.out.cell 0
    have c1 := HC.out.cell 1
    have c2 := HC.out.cell 2
    have c3 := HC.out.cell 3
    have c4 := HC.out.cell 4
    have c5 := HC.out.cell 5
    have c6 := HC.out.cell 6
    have c7 := HC.out.cell 7
    have c8 := HC.out.cell 8
    simp only [condC, noNet, List.getElem?_toArray, List.getElem?_cons_zero, List.getElem?_cons_succ] at c0 c1 c2 c3 c4 c5 c6 c7 c8
    have f4 := HC.out.fro 4
    have HS := hide (HC.out.set 4 (.string z) ⟨a0, (8 : Nat), 0, 0, z, noNet⟩ (by rfl))
    have hres := HS.out.res
    obtain ⟨cc, hcc⟩ : ∃ cc, cc = condC ⟨a0, (8 : Nat), 0, 0, z, noNet⟩ := ⟨_, rfl⟩
    have h1c : cc.all (·.oneCell') = true := by rw [hcc]; exact condC_one _
    go_wp2_with (refine wpList_store_row rfl 60 _ _ rfl w.heap.size cc rfl (by rw [hcc]; rfl) 60 _ hres (by rw [hcc]; exact size_cond) (by rw [hcc]; rfl) h1c ?_)
    refine bodyPost_ret (v := .agg cc) (results_cell_row rfl _ _ w.heap.size 60 cc (0, 0) _ rfl (setRow_heap _ _ _ _ _ _ hres) Tryz.underlying60 rfl (by rw [hcc]; exact size_cond)) rfl ⟨?_, ?_, ?_⟩
    · rw [HV.out, hcc]; rfl
    · rw [HV.out]; exact (HS.out.done _).1
    · exact (HS.out.done _).2
  have n8 : ¬ (op : Int) = 8 := by omega
  by_cases h7 : op = 7
  · subst h7
    have HV := hide (HRC.out.trans ((if_neg (by omega)).trans ((if_neg (by omega)).trans (if_pos rfl))))
    clear HRC
    go_wp2_with fail
    refine calls_forget (W0 := Y2.setCell ⟨r2, 1, none⟩ (.int .i64 7)) (CX w g B w.heap.size r2 t2 ⟨a0, (7 : Nat), 0, 0, ⟨#[]⟩, noNet⟩) HS.out ?_
    clear HS cj fj
    intro Y3 hY
    have HC := hide hY
    clear hY
    refine (numX HT3.out HUM.out g B hg _ HC.out.words HC.out.ev).mono ?_
    rintro e Y4 ⟨rfl, hw1, hw2⟩
    replace HC := hide (HC.out.step hg hw1 hw2)
    clear hw1 hw2
    have cj := HC.out.cell 3
    have fj := HC.out.fro 3
    simp only [condC, noNet, List.getElem?_toArray, List.getElem?_cons_zero, List.getElem?_cons_succ] at cj
    have HS := hide (HC.out.set 3 (.int .u64 um) ⟨a0, (7 : Nat), 0, um, ⟨#[]⟩, noNet⟩ (by rfl))
    clear HC
    go_wp2_with fail
    refine calls_forget (W0 := Y4.setCell ⟨r2, 3, none⟩ (.int .u64 um)) (CX w g B w.heap.size r2 t3 ⟨a0, (7 : Nat), 0, um, ⟨#[]⟩, noNet⟩) HS.out ?_
    clear HS cj fj
    intro Y5 hY
    have HC := hide hY
    clear hY
    have hsm : x3.length ≤ 9000 := by have := head_small HC.out.words; rwa [← HX3.out] at this
    refine (nextX HT4.out HX3.out g B _ HC.out.words).mono ?_
    rintro e Y6 ⟨rfl, hw1, hw2⟩
    replace HC := hide (HC.out.step hg hw1 hw2)
    clear hw1 hw2
    clear hsm
    go_wp2_with fail
    refine (numX HT5.out HUV.out g B hg _ HC.out.words HC.out.ev).mono ?_
    rintro e Y7 ⟨rfl, hw1, hw2⟩
    replace HC := hide (HC.out.step hg hw1 hw2)
    clear hw1 hw2
    have c0 := HC.out.cell 0
    have c1 := HC.out.cell 1
    have c2 := HC.out.cell 2
    have c3 := HC.out.cell 3
    have c4 := HC.out.cell 4
    have c5 := HC.out.cell 5
    have c6 := HC.out.cell 6
    have c7 := HC.out.cell 7
    have c8 := HC.out.cell 8
    simp only [condC, noNet, List.getElem?_toArray, List.getElem?_cons_zero, List.getElem?_cons_succ] at c0 c1 c2 c3 c4 c5 c6 c7 c8
    have f2 := HC.out.fro 2
    have HS := hide (HC.out.set 2 (.int .u64 uv) ⟨a0, (7 : Nat), uv, um, ⟨#[]⟩, noNet⟩ (by rfl))
    have hres := HS.out.res
    obtain ⟨cc, hcc⟩ : ∃ cc, cc = condC ⟨a0, (7 : Nat), uv, um, ⟨#[]⟩, noNet⟩ := ⟨_, rfl⟩
    have h1c : cc.all (·.oneCell') = true := by rw [hcc]; exact condC_one _
    go_wp2_with (refine wpList_store_row rfl 60 _ _ rfl w.heap.size cc rfl (by rw [hcc]; rfl) 60 _ hres (by rw [hcc]; exact size_cond) (by rw [hcc]; rfl) h1c ?_)
    refine bodyPost_ret (v := .agg cc) (results_cell_row rfl _ _ w.heap.size 60 cc (0, 0) _ rfl (setRow_heap _ _ _ _ _ _ hres) Tryz.underlying60 rfl (by rw [hcc]; exact size_cond)) rfl ⟨?_, ?_, ?_⟩
    · rw [HV.out, hcc]; rfl
    · rw [HV.out]; exact (HS.out.done _).1
    · exact (HS.out.done _).2
  have n7 : ¬ (op : Int) = 7 := by omega
  by_cases h9 : op = 9
  · subst h9
    have HV := hide (HRC.out.trans ((if_neg (by omega)).trans (if_pos rfl)))
    clear HRC
    go_wp2_with fail
    refine calls_forget (W0 := Y2.setCell ⟨r2, 1, none⟩ (.int .i64 9)) (CX w g B w.heap.size r2 t2 ⟨a0, (9 : Nat), 0, 0, ⟨#[]⟩, noNet⟩) HS.out ?_
    clear HS cj fj
    intro Y3 hY
    have HC := hide hY
    clear hY
    have hsm : x2.length ≤ 9000 := by have := head_small HC.out.words; rwa [← HX2.out] at this
    refine (nextX HT3.out HX2.out g B _ HC.out.words).mono ?_
    rintro e Y4 ⟨rfl, hw1, hw2⟩
    replace HC := hide (HC.out.step hg hw1 hw2)
    clear hw1 hw2
    have HP := fun X => aparse_any (bs x2) (by rw [bs_size]; omega) X
    rw [bs_data] at HP
    obtain ⟨q, hq⟩ : ∃ q, q = bs x2 := ⟨_, rfl⟩
    rw [← hq] at HP ⊢
    clear hq hsm
    go_wp2_with fail
    refine (HP _).mono ?_
    rintro e Y5 ⟨rfl, hw1⟩
    replace HC := hide (HC.out.on hg hw1)
    clear hw1 HP
    obtain ⟨ip, b, lo, hi, er, hpv, hnr⟩ := parseV_net x2
    rw [hpv]
    rw [hnr] at HV
    clear hpv hnr
    have c0 := HC.out.cell 0
    have c1 := HC.out.cell 1
    have c2 := HC.out.cell 2
    have c3 := HC.out.cell 3
    have c4 := HC.out.cell 4
    have c5 := HC.out.cell 5
    have c6 := HC.out.cell 6
    have c7 := HC.out.cell 7
    have c8 := HC.out.cell 8
    simp only [condC, noNet, List.getElem?_toArray, List.getElem?_cons_zero, List.getElem?_cons_succ] at c0 c1 c2 c3 c4 c5 c6 c7 c8
    have f5 := HC.out.fro 5
    have f6 := HC.out.fro 6
    have f7 := HC.out.fro 7
    have f8 := HC.out.fro 8
    have HS := hide ((((HC.out.set 5 (.int .u32 ip) ⟨a0, (9 : Nat), 0, 0, ⟨#[]⟩, ⟨ip, 0, 0, 0⟩⟩ (by rfl)).set 6 (.int .i64 b) ⟨a0, (9 : Nat), 0, 0, ⟨#[]⟩, ⟨ip, b, 0, 0⟩⟩ (by rfl)).set 7 (.int .i64 lo) ⟨a0, (9 : Nat), 0, 0, ⟨#[]⟩, ⟨ip, b, lo, 0⟩⟩ (by rfl)).set 8 (.int .i64 hi) ⟨a0, (9 : Nat), 0, 0, ⟨#[]⟩, ⟨ip, b, lo, hi⟩⟩ (by rfl))
    have hres := HS.out.res
    obtain ⟨cc, hcc⟩ : ∃ cc, cc = condC ⟨a0, (9 : Nat), 0, 0, ⟨#[]⟩, ⟨ip, b, lo, hi⟩⟩ := ⟨_, rfl⟩
    have h1c : cc.all (·.oneCell') = true := by rw [hcc]; exact condC_one _
    go_wp2_with (refine wpList_store_row rfl 60 _ _ rfl w.heap.size cc rfl (by rw [hcc]; rfl) 60 _ hres (by rw [hcc]; exact size_cond) (by rw [hcc]; rfl) h1c ?_)
    refine bodyPost_ret (v := .agg cc) (results_cell_row rfl _ _ w.heap.size 60 cc (0, 0) _ rfl (setRow_heap _ _ _ _ _ _ hres) Tryz.underlying60 rfl (by rw [hcc]; exact size_cond)) rfl ⟨?_, ?_, ?_⟩
    · rw [HV.out, hcc]; rfl
    · rw [HV.out]; exact (HS.out.done _).1
    · exact (HS.out.done _).2
  have n9 : ¬ (op : Int) = 9 := by omega
  have HV := hide (HRC.out.trans ((if_neg h8).trans ((if_neg h9).trans (if_neg h7))))
  clear HRC h7 h8 h9
  go_wp2_with fail
  refine calls_forget (W0 := Y2.setCell ⟨r2, 1, none⟩ (.int .i64 (op : Nat))) (CX w g B w.heap.size r2 t2 ⟨a0, (op : Nat), 0, 0, ⟨#[]⟩, noNet⟩) HS.out ?_
  clear HS cj fj
  intro Y3 hY
  have HC := hide hY
  clear hY
  refine (numX HT3.out HUM.out g B hg _ HC.out.words HC.out.ev).mono ?_
  rintro e Y4 ⟨rfl, hw1, hw2⟩
  replace HC := hide (HC.out.step hg hw1 hw2)
  clear hw1 hw2
  have c0 := HC.out.cell 0
  have c1 := HC.out.cell 1
  have c2 := HC.out.cell 2
  have c3 := HC.out.cell 3
  have c4 := HC.out.cell 4
  have c5 := HC.out.cell 5
  have c6 := HC.out.cell 6
  have c7 := HC.out.cell 7
  have c8 := HC.out.cell 8
  simp only [condC, noNet, List.getElem?_toArray, List.getElem?_cons_zero, List.getElem?_cons_succ] at c0 c1 c2 c3 c4 c5 c6 c7 c8
  have f2 := HC.out.fro 2
  have HS := hide (HC.out.set 2 (.int .u64 um) ⟨a0, (op : Nat), um, 0, ⟨#[]⟩, noNet⟩ (by rfl))
  have hres := HS.out.res
  obtain ⟨cc, hcc⟩ : ∃ cc, cc = condC ⟨a0, (op : Nat), um, 0, ⟨#[]⟩, noNet⟩ := ⟨_, rfl⟩
  have h1c : cc.all (·.oneCell') = true := by rw [hcc]; exact condC_one _
  go_wp2_with (refine wpList_store_row rfl 60 _ _ rfl w.heap.size cc rfl (by rw [hcc]; rfl) 60 _ hres (by rw [hcc]; exact size_cond) (by rw [hcc]; rfl) h1c ?_)
  refine bodyPost_ret (v := .agg cc) (results_cell_row rfl _ _ w.heap.size 60 cc (0, 0) _ rfl (setRow_heap _ _ _ _ _ _ hres) Tryz.underlying60 rfl (by rw [hcc]; exact size_cond)) rfl ⟨?_, ?_, ?_⟩
  · rw [HV.out, hcc]; rfl
  · rw [HV.out]; exact (HS.out.done _).1
  · exact (HS.out.done _).2
end Go.Proofs.YtbifjokfnahiaabGreatDoor
