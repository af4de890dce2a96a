/- The document's ruleOf: the walk. -/
import Derived.Test.YtkogafponpjdnaaGreatDoorK9
import Derived.Test.YtkogafponpjdnaaGreatDoorK3
namespace Go.Proofs.YtkogafponpjdnaaGreatDoor
open Go.RowKit Go.Sort

/-- Cells of a rule that is handed back with false. -/
theorem ruleC_one (nr : Int) (oa : Option Addr) (n cap : Nat) (a : ACT) : (ruleC nr (.slice oa n cap) a).all (·.oneCell') = true := by simp [ruleC, Value.oneCell']
theorem cut_some (c : UInt8) (l : W8) (oa : Option Addr) (W : World) (h : IsStrs oa (splitC c l) W) : ∃ b off, oa = some ⟨b, off, none⟩ ∧ b < W.heap.size ∧ WordsAt W b off (splitC c l) := h.lie (List.length_pos_iff.2 (splitC_ne c l))
theorem docDeny_le {ws : List W8} {a : ACT} {n : Nat} (h : docDeny ws = some (a, n)) : n = 2 ∧ 1 ≤ ws.length := by
  cases ws with
  | nil => simp [docDeny] at h
  | cons x t =>
    simp only [docDeny] at h
    split at h
    · simp only [Option.some.injEq, Prod.mk.injEq] at h
      exact ⟨h.2.symm, by simp⟩
    · simp at h
theorem docAct_le {ws : List W8} {a : ACT} {n : Nat} (h : docAct ws = some (a, n)) : 1 ≤ n ∧ n ≤ 2 ∧ n ≤ ws.length := by
  cases ws with
  | nil => simp [docAct] at h
  | cons w r =>
    rw [docAct_cons] at h
    split at h
    · simp only [Option.some.injEq, Prod.mk.injEq] at h
      rw [← h.2]
      simp
    · split at h
      · simp only [Option.some.injEq, Prod.mk.injEq] at h
        rw [← h.2]
        simp
      · split at h
        · obtain ⟨h1, h2⟩ := docDeny_le h
          rw [h1, List.length_cons]
          omega
        · simp at h
theorem docMask_le {a x : W8} {r : List W8} {c : CD} {n : Nat} (h : docMask a x r = some (c, n)) (ha : figN a ≤ 3) : n = 5 ∧ 2 ≤ r.length ∧ CdOk c := by
  match r, h with
  | [], h => simp [docMask] at h
  | [_], h => simp [docMask] at h
  | y :: z :: t, h =>
    simp only [docMask] at h
    split at h
    · simp only [Option.some.injEq, Prod.mk.injEq] at h
      refine ⟨h.2.symm, by simp, ?_⟩
      rw [← h.1]
      exact ⟨i64_nat (by omega), i64_nat (k := 7) (by omega), figN_lt _, figN_lt _, noNet_ok⟩
    · simp at h
theorem op6_le (w : W8) : findOp6 w ≤ 6 := by
  unfold findOp6
  cases h : (signW.take 6).findIdx? (· == w) with
  | none => simp
  | some i =>
    have := (find_some h).2
    simp [signW] at this ⊢
    omega
theorem docCond_le {ws : List W8} {c : CD} {n : Nat} (h : docCond ws = some (c, n)) : 1 ≤ n ∧ n ≤ 5 ∧ n ≤ ws.length ∧ CdOk c := by
  match ws, h with
  | [], h => simp [docCond] at h
  | [_], h => simp [docCond] at h
  | [_, _], h => simp [docCond] at h
  | a :: s :: x :: r, h =>
    simp only [docCond] at h
    split at h
    · rename_i ha
      have i1 : I64 (figN a : Int) := i64_nat (by omega)
      split at h
      · obtain ⟨h1, h2, h3⟩ := docMask_le h ha.2
        exact ⟨by omega, by omega, by simp only [List.length_cons]; omega, h3⟩
      · split at h
        · split at h
          · simp only [Option.some.injEq, Prod.mk.injEq] at h
            rw [← h.2, ← h.1]
            exact ⟨by omega, by omega, by simp, ⟨i1, i64_nat (k := 8) (by omega), by simp, by simp, noNet_ok⟩⟩
          · simp at h
        · split at h
          · cases hp : parseR x with
            | none => rw [hp] at h; simp at h
            | some y =>
              obtain ⟨ip, b, lo, hi⟩ := y
              rw [hp] at h
              simp only [Option.some.injEq, Prod.mk.injEq] at h
              rw [← h.2, ← h.1]
              obtain ⟨hip, hf, _⟩ := parse_some hp
              have hk := fault_ok hf
              exact ⟨by omega, by omega, by simp, ⟨i1, i64_nat (k := 9) (by omega), by simp, by simp, ⟨hip, i64_nat (by omega), i64_nat (by omega), i64_nat (by omega)⟩⟩⟩
          · split at h
            · simp only [Option.some.injEq, Prod.mk.injEq] at h
              rw [← h.2, ← h.1]
              exact ⟨by omega, by omega, by simp, ⟨i1, i64_nat (by have := op6_le s; omega), figN_lt _, by simp, noNet_ok⟩⟩
            · simp at h
    · simp at h
theorem ruleC_eq (nr : Int) (sv : Value) (a : ACT) : ruleC nr sv a = #[.int .i64 nr, sv, .int .i64 a.kind, .int .i64 a.errno] := rfl
/-- A result's row that is still nought. -/
theorem res_cells {W : World} {r : Nat} (h : W.heap[r]? = some (.cells (ruleC 0 (.slice none 0 0) ⟨0, 0⟩) 65 (0, 0))) :
    W.cell? ⟨r, 0, none⟩ = some (.int .i64 0) ∧ W.cell? ⟨r, 1, none⟩ = some (.slice none 0 0) ∧ W.cell? ⟨r, 2, none⟩ = some (.int .i64 0) ∧ W.cell? ⟨r, 3, none⟩ = some (.int .i64 0) ∧
    W.frozen? ⟨r, 0, none⟩ = false ∧ W.frozen? ⟨r, 1, none⟩ = false ∧ W.frozen? ⟨r, 2, none⟩ = false ∧ W.frozen? ⟨r, 3, none⟩ = false :=
  ⟨cell_of_row _ _ 0 _ _ _ h, cell_of_row _ _ 1 _ _ _ h, cell_of_row _ _ 2 _ _ _ h, cell_of_row _ _ 3 _ _ _ h, frozen_of_row _ _ 0 _ _ h, frozen_of_row _ _ 1 _ _ h, frozen_of_row _ _ 2 _ _ h, frozen_of_row _ _ 3 _ _ h⟩
theorem rule_twice (W : World) (g : Nat) (c0 c1 c2 : Array Value) (t : TypeId) (h : W.heap[g]? = some (.cells c0 t (0, 0))) : (W.setRow g c1).setRow g c2 = W.setRow g c2 := by
  unfold World.setRow
  congr 1
  apply Array.ext_getElem?
  intro j
  simp only [Array.getElem?_modify]
  by_cases hj : g = j
  · subst hj
    simp [h]
  · simp [hj]
theorem res_set4 {W : World} {r : Nat} (h : W.heap[r]? = some (.cells (ruleC 0 (.slice none 0 0) ⟨0, 0⟩) 65 (0, 0))) (v0 v1 v2 v3 : Value) :
    (((W.setCell ⟨r, 0, none⟩ v0).setCell ⟨r, 1, none⟩ v1).setCell ⟨r, 2, none⟩ v2).setCell ⟨r, 3, none⟩ v3 = W.setRow r #[v0, v1, v2, v3] := by
  rw [setCell_eq_setRow _ _ 0 _ _ _ _ h, setCell_eq_setRow _ _ 1 _ _ _ _ (setRow_heap _ _ _ _ _ _ h), rule_twice _ _ _ _ _ _ h, setCell_eq_setRow _ _ 2 _ _ _ _ (setRow_heap _ _ _ _ _ _ h), rule_twice _ _ _ _ _ _ h, setCell_eq_setRow _ _ 3 _ _ _ _ (setRow_heap _ _ _ _ _ _ h), rule_twice _ _ _ _ _ _ h]
  rfl
/-- 'w[k:]'. -/
theorem slice_from (b o m c k : Nat) (z : Int) (hz : z = k) (hk : k ≤ m) (hm : m ≤ c) (W : World) : (Instr.slice 89 (.slice (some ⟨b, o, none⟩) m c) (some (.int .i64 z)) none none).run Tryz.prog W = .ok (.slice (some ⟨b, if c = k then o else o + k, none⟩) (m - k) (c - k)) W := by
  subst hz
  have h1 : (0 : Int) ≤ k := by omega
  have h2 : (k : Int) ≤ m := by omega
  have h3 : (m : Int) ≤ c := by omega
  by_cases hc : c = k
  · simp [Instr.slice, Instr.sliceBounds, Instr.sliceBound, asIntOf, run_underlying Tryz.underlying89, go_sem, hc]
    omega
  · simp [Instr.slice, Instr.sliceBounds, Instr.sliceBound, asIntOf, run_underlying Tryz.underlying89, go_sem, hc]
    omega
/-- A slice's length. -/
def slLen : Value → Nat
  | .slice _ n _ => n
  | _ => 0
theorem docConds_step {n : Nat} {f : Bool} {w : W8} {r : List W8} {c : CD} {k : Nat} (hw : w = if f then wIf else wAnd) (hc : docCond r = some (c, k)) : docConds (n + 1) f (w :: r) = (docConds n false (r.drop k)).map (c :: ·) := by
  rw [docConds, if_pos hw, hc]
theorem nm_getD (i : Nat) (_h : i < 9) : nameOf (i : Int) = nameW.getD i [] := rfl

set_option maxHeartbeats 4000000 in
set_option maxRecDepth 100000 in
theorem druleOf_any (line : W8) (hline : line.length ≤ 9000) (w : World) : Calls Tryz.prog 38 #[.string (bs line)] w fun e w' => RuleRes (docRule (splitC 32 line)) e w w' ∧ Below w.heap.size w w' := by
  obtain ⟨ws, hws⟩ : ∃ ws, ws = splitC 32 line := ⟨_, rfl⟩
  obtain ⟨V0, hV0, hV0h, hV0b, hV0s⟩ : ∃ V, V = w.alloc (.cells #[.int .i64 0, .slice none 0 0, .int .i64 0, .int .i64 0] 65) ∧ V.heap[w.heap.size]? = some (.cells (ruleC 0 (.slice none 0 0) ⟨0, 0⟩) 65 (0, 0)) ∧ Below w.heap.size w V ∧ V.heap.size = w.heap.size + 1 := ⟨_, rfl, heap_alloc_new _ _, box_below _ _, by rw [World.size_alloc]⟩
  have HS := dcut_any (bs line) (by rw [bs_size]; exact hline) 32 32 rfl V0
  rw [bs_data, ← hws] at HS
  have hwl : ws.length ≤ 9001 := by rw [hws]; have := split_len (c := 32) line; omega
  have hwsm : ∀ x ∈ ws, x.length ≤ 9000 := by rw [hws]; exact split_small hline
  have hwne : 0 < ws.length := by rw [hws]; exact List.length_pos_iff.2 (splitC_ne _ _)
  rw [← hws]
  obtain ⟨q, hq⟩ : ∃ q, q = bs line := ⟨_, rfl⟩
  rw [← hq] at HS ⊢
  clear hws hq hline
  have HSM := hide hwsm
  go_enter Tryz.func38, Tryz.ntmps38
  go_wp2_with fail
  rw [show w.alloc (Obj.cells #[.int .i64 0, .slice none 0 0, .int .i64 0, .int .i64 0] 65) = V0 from hV0.symm]
  refine HS.mono ?_
  rintro e X ⟨⟨oa, cap, rfl, hc1, hc2, hst⟩, hX⟩
  clear HS hV0
  obtain ⟨b, off, rfl, hbl, hwa⟩ := hst.lie hwne
  have HWA : WordsAt X b off ws := hwa
  clear hst hwa
  have HXr : X.heap[w.heap.size]? = some (.cells (ruleC 0 (.slice none 0 0) ⟨0, 0⟩) 65 (0, 0)) := (hX.block _ (by omega)).trans hV0h
  have HXb := below_next hV0b hX
  have hXs := hX.size
  obtain ⟨r5, hr5⟩ : ∃ r, r = X.heap.size := ⟨_, rfl⟩
  obtain ⟨Y0, hY0, hU0⟩ : ∃ Y, Y = X.alloc (.cells #[.int .i64 0, .slice none 0 0, .int .i64 0, .int .i64 0] 65) ∧ UX w r5 b off ws 0 [] ⟨0, 0⟩ (.slice none 0 0) Y := by
    refine ⟨_, rfl, ⟨⟨below_next HXb (box_below _ _), ((box_below X _).block _ (by omega)).trans HXr, by rw [hr5]; exact heap_alloc_new _ _, fun i x hi => keep_cell (box_below _ _) (HWA i x hi), by omega, by omega⟩, World.ownsRow_nil _ _ _ _⟩⟩
  have HU0 := hide hU0
  have HAC := dact_any ws hwsm (some ⟨b, off, none⟩) cap Y0 (WordsAt.strs hU0.weak.words (by have := hU0.weak.lt; have := hU0.weak.le; omega)) hwl
  have HDR := hide (show docRule ws = match docAct ws with
    | some (a, n) => if n < ws.length then (match docConds ws.length true (ws.drop (n + 1)) with
      | some cs => if findCall (ws.getD n []) < 0 then none else some ⟨findCall (ws.getD n []), cs, a⟩
      | none => none) else none
    | none => none from rfl)
  clear hU0 HXb HXr hX hV0b hV0h hV0s hbl HWA hwsm
  obtain ⟨N, hN⟩ : ∃ N, N = ws.length := ⟨_, rfl⟩
  rw [← hN] at HAC hc1 hwl hwne ⊢
  have HN := hide hN
  clear hN hXs
  go_wp2_with fail
  rw [show X.alloc (.cells #[.int .i64 0, .slice none 0 0, .int .i64 0, .int .i64 0] 65) = Y0 from hY0.symm, ← hr5]
  refine HAC.mono ?_
  rintro e Y ⟨rfl, hY⟩
  clear HAC hY0
  have HU := hide (HU0.out.on hY)
  clear HU0 hY hr5 X
  have hsl : (0 : Nat) ≤ 0 := Nat.le_refl _
  have hsc : (0 : Nat) ≤ maxLen := by unfold maxLen; omega
  cases hda : docAct ws with
  | none =>
    have HR := hide (show docRule ws = none by rw [HDR.out, hda])
    unfold docActV actV
    simp only
    have HU1 := hide (HU.out.on (box_below Y (.cells #[.int .i64 0, .int .i64 0] 24)))
    have c0 := HU1.out.cell 0
    have c1 := HU1.out.cell 1
    have c2 := HU1.out.cell 2
    have c3 := HU1.out.cell 3
    simp only [ruleC, List.getElem?_toArray, List.getElem?_cons_zero, List.getElem?_cons_succ] at c0 c1 c2 c3
    have hres := HU1.out.weak.res
    obtain ⟨rc, hrc⟩ : ∃ rc : Array Value, rc = ruleC 0 (.slice none 0 0) ⟨0, 0⟩ := ⟨_, rfl⟩
    have h1c : rc.all (·.oneCell') = true := by rw [hrc]; exact ruleC_one _ _ _ _ _
    obtain ⟨q0, q1, q2, q3, g0, g1, g2, g3⟩ := res_cells hres
    go_wp2
    rw [res_set4 hres, ← ruleC_eq 0 (.slice none 0 0) ⟨0, 0⟩, ← hrc]
    refine bodyPost_ret (v := .tuple #[.agg rc, .bool false]) (results_rule rfl _ _ w.heap.size rc _ (by rw [hrc]; rfl) rfl rfl (setRow_heap _ _ _ _ _ _ hres)) rfl ⟨?_, (HU1.out.done _).1⟩
    rw [HR.out, hrc]
    exact ⟨_, _, _, _, _, hsl, hsc, rfl⟩
  | some an =>
  obtain ⟨⟨ak, ae⟩, n⟩ := an
  obtain ⟨hn1, hn2, hn3⟩ := docAct_le hda
  rw [← HN.out] at hn3
  unfold docActV actV
  simp only
  have HU1 := hide (HU.out.on (box_below Y (.cells #[.int .i64 ak, .int .i64 ae] 24)))
  have c0 := HU1.out.cell 0
  have c1 := HU1.out.cell 1
  have c2 := HU1.out.cell 2
  have c3 := HU1.out.cell 3
  simp only [ruleC, List.getElem?_toArray, List.getElem?_cons_zero, List.getElem?_cons_succ] at c0 c1 c2 c3
  have n0 : ¬ (n : Int) = 0 := by omega
  by_cases hnN : n < N
  case neg =>
    have HR := hide (show docRule ws = none by
      rw [HDR.out, hda]
      simp only
      rw [if_neg (by rw [← HN.out]; exact hnN)])
    have hres := HU1.out.weak.res
    obtain ⟨rc, hrc⟩ : ∃ rc : Array Value, rc = ruleC 0 (.slice none 0 0) ⟨0, 0⟩ := ⟨_, rfl⟩
    have h1c : rc.all (·.oneCell') = true := by rw [hrc]; exact ruleC_one _ _ _ _ _
    have n1 : (N : Int) ≤ n := by omega
    obtain ⟨q0, q1, q2, q3, g0, g1, g2, g3⟩ := res_cells hres
    go_wp2
    rw [res_set4 hres, ← ruleC_eq 0 (.slice none 0 0) ⟨0, 0⟩, ← hrc]
    refine bodyPost_ret (v := .tuple #[.agg rc, .bool false]) (results_rule rfl _ _ w.heap.size rc _ (by rw [hrc]; rfl) rfl rfl (setRow_heap _ _ _ _ _ _ hres)) rfl ⟨?_, (HU1.out.done _).1⟩
    rw [HR.out, hrc]
    exact ⟨_, _, _, _, _, hsl, hsc, rfl⟩
  have n1 : ¬ (N : Int) ≤ n := by omega
  have HR0 := hide (show docRule ws = match docConds ws.length true (ws.drop (n + 1)) with
      | some cs => if findCall (ws.getD n []) < 0 then none else some ⟨findCall (ws.getD n []), cs, ⟨ak, ae⟩⟩
      | none => none by
    rw [HDR.out, hda]
    simp only
    rw [if_pos (by rw [← HN.out]; exact hnN)])
  clear HDR hda
  have f0 := HU1.out.fro 0
  have f2 := HU1.out.fro 2
  have f3 := HU1.out.fro 3
  obtain ⟨x, hx⟩ : ∃ x, ws[n]? = some x := ⟨_, List.getElem?_eq_getElem (by rw [← HN.out]; exact hnN)⟩
  have hxd : ws.getD n [] = x := by rw [List.getD_eq_getElem?_getD, hx]; rfl
  rw [hxd] at HR0
  have HX := hide hx
  clear hx hxd
  have HU2 := hide (show UX w r5 b off ws (-1) [] ⟨ak, ae⟩ (.slice none 0 0) ((((Y.alloc (.cells #[.int .i64 ak, .int .i64 ae] 24)).setCell ⟨r5, 2, none⟩ (.int .i64 ak)).setCell ⟨r5, 3, none⟩ (.int .i64 ae)).setCell ⟨r5, 0, none⟩ (.int .i64 (-1))) from ⟨((HU1.out.weak.set 2 (.int .i64 ak) (a' := ⟨ak, 0⟩) (nr' := 0) (sv' := .slice none 0 0) rfl).set 3 (.int .i64 ae) (a' := ⟨ak, ae⟩) (nr' := 0) (sv' := .slice none 0 0) rfl).set 0 (.int .i64 (-1)) (nr' := -1) (a' := ⟨ak, ae⟩) (sv' := .slice none 0 0) rfl, World.ownsRow_nil _ _ _ _⟩)
  go_wp2
  clear HU HU1 c0 c1 c2 c3 f0 f2 f3
  go_loopw [8] (fun I w' => ∃ i : Nat, i ≤ 9 ∧ I = .int .i64 i ∧ Hid (UX w r5 b off ws (nrTo x i) [] ⟨ak, ae⟩ (.slice none 0 0) w')) (fun I _ => 9 - (intOf I).toNat)
  case atStart => exact ⟨0, by omega, rfl, HU2⟩
  case round =>
    obtain ⟨i, hi, rfl, HC⟩ := hrel
    clear HU2
    by_cases hlt : i < 9
    · have x0 := HC.out.weak.words n x HX.out
      have ni := fun W => names_index i (by omega) W
      obtain ⟨nm, hnm⟩ : ∃ q : ByteArray, q = bs (nameOf (i : Int)) := ⟨_, rfl⟩
      rw [← hnm] at ni
      obtain ⟨xq, hxq⟩ : ∃ q : ByteArray, q = bs x := ⟨_, rfl⟩
      rw [← hxq] at x0
      have heq : (nm.toList == xq.toList) = decide (nameW.getD i [] = x) := by
        rw [hnm, hxq, bs_toList, bs_toList, nm_getD i hlt]
        by_cases h : nameW.getD i [] = x
        · rw [h]; simp
        · rw [decide_eq_false h]; exact beq_no h
      have g0 := cell_regrown x0
      have cN : ∀ d os, Calls Tryz.prog 30 #[] (grow (redrawn wr d) os) fun e w'' => e = .returned (.agg namesA) ∧ ∃ p : Regrown, w'' = grow (redrawn wr p.d) p.os := fun d os => Calls.regrown_of (callNames_any _)
      obtain ⟨NM, hNM⟩ : ∃ a, a = namesA := ⟨_, rfl⟩
      rw [← hNM] at ni cN
      have i1 : (0 : Int) ≤ i := by omega
      have i2 : (i : Int) < 9 := by omega
      have i3 : (0 : Int) ≤ n := by omega
      have i4 : (n : Int) < N := by omega
      have hst : nrTo x (i + 1) = if nameW.getD i [] = x then (i : Int) else nrTo x i := rfl
      clear hnm hxq hNM x0
      by_cases hq : nameW.getD i [] = x
      · rw [decide_eq_true hq] at heq
        rw [if_pos hq] at hst
        have HST := hide hst
        clear hst hq
        go_wp2_with fail
        refine wp_region_quiet_below (by kernel_rfl) (by kernel_rfl) ?_
        repeat (go_big_quiet_step ((go_at_call 30; exact cN _ _)))
        refine wpQuiet_nil ?_
        intro _ hw'
        obtain ⟨⟨dq, osq⟩, hw''⟩ := hw'
        subst hw''
        have HD := hide (HC.out.on (below_regrown wr dq osq))
        obtain ⟨Z, hZ⟩ : ∃ Y, Y = grow (redrawn wr dq) osq := ⟨_, rfl⟩
        rw [← hZ] at HD ⊢
        clear hZ g0 cN ni
        have f0 := HD.out.fro 0
        have c0 := HD.out.cell 0
        simp only [ruleC, List.getElem?_toArray, List.getElem?_cons_zero] at c0
        have HE : Hid (UX w r5 b off ws (nrTo x (i + 1)) [] ⟨ak, ae⟩ (.slice none 0 0) (Z.setCell ⟨r5, 0, none⟩ (.int .i64 (i : Int)))) := hide (by rw [HST.out]; exact HD.out.setNr i)
        go_wp2
        go_round
        case rel => exact ⟨i + 1, by omega, by go_num, HE⟩
        case measure => simp [intOf]; omega
      · rw [decide_eq_false hq] at heq
        rw [if_neg hq] at hst
        have HST := hide hst
        clear hst hq
        go_wp2_with fail
        refine wp_region_quiet_below (by kernel_rfl) (by kernel_rfl) ?_
        repeat (go_big_quiet_step ((go_at_call 30; exact cN _ _)))
        refine wpQuiet_nil ?_
        intro _ hw'
        obtain ⟨⟨dq, osq⟩, hw''⟩ := hw'
        subst hw''
        have HD := hide (HC.out.on (below_regrown wr dq osq))
        obtain ⟨Z, hZ⟩ : ∃ Y, Y = grow (redrawn wr dq) osq := ⟨_, rfl⟩
        rw [← hZ] at HD ⊢
        rw [← HST.out] at HD
        clear hZ g0 cN ni
        go_wp2
        go_round
        case rel => exact ⟨i + 1, by omega, by go_num, HD⟩
        case measure => simp [intOf]; omega
    · have hi9 : i = 9 := by omega
      rw [hi9, nrTo_nine] at HC
      have hge : ¬ (i : Int) < 9 := by omega
      clear hi9 hi hlt
      obtain ⟨o1, ho1⟩ : ∃ o, o = if cap = n + 1 then off else off + (n + 1) := ⟨_, rfl⟩
      obtain ⟨m1, hm1⟩ : ∃ m, m = N - (n + 1) := ⟨_, rfl⟩
      obtain ⟨c1, hcc1⟩ : ∃ m, m = cap - (n + 1) := ⟨_, rfl⟩
      have hsl1 : ∀ W, (Instr.slice 89 (.slice (some ⟨b, off, none⟩) N cap) (some (.int .i64 ((n : Int) + 1))) none none).run Tryz.prog W = .ok (.slice (some ⟨b, o1, none⟩) m1 c1) W := fun W => by
        rw [slice_from b off N cap (n + 1) ((n : Int) + 1) (by omega) (by omega) hc1 W, ← ho1, ← hm1, ← hcc1]
      have ho2 : 0 < m1 → o1 = off + (n + 1) := fun h => by rw [ho1, if_neg (by omega)]
      have hmk : (n + 1) + m1 = N := by omega
      have hmc : m1 ≤ c1 := by omega
      have hc9 : c1 ≤ maxLen := by omega
      have s4 : IntKind.i64.wrap ((n : Int) + 1) = (n : Int) + 1 := by rw [IntKind.wrap_i64]; omega
      have HIN := hide (And.intro ho2 (And.intro hmk (And.intro hmc hc9)))
      obtain ⟨nr, hnr⟩ : ∃ z, z = findCall x := ⟨_, rfl⟩
      have hnr1 := findCall_ok x
      rw [← hnr] at HC HR0 hnr1
      have HNR := hide hnr1
      have HD0 := hide (show docConds ws.length true (ws.drop (n + 1)) = (docConds m1 ([] : List CD).isEmpty (ws.drop (n + 1))).map (([] : List CD) ++ ·) by
        rw [docConds_fuel ws.length m1 true _ (by rw [List.length_drop]; omega) (by rw [List.length_drop, ← HN.out]; omega)]
        simp)
      clear ho1 hm1 hcc1 ho2 hmk hmc hc9 hnr hnr1
      go_wp2
      clear hsl1 s4
      go_loopw [4] (fun S w' => ∃ (k m c o : Nat) (cs : List CD) (sv : Value), S = .slice (some ⟨b, o, none⟩) m c ∧ Hid ((0 < m → o = off + k) ∧ k + m = N ∧ m ≤ c ∧ c ≤ maxLen) ∧ Hid (UX w r5 b off ws nr cs ⟨ak, ae⟩ sv w') ∧ Hid (docConds ws.length true (ws.drop (n + 1)) = (docConds m cs.isEmpty (ws.drop k)).map (cs ++ ·)) ∧ Hid (∀ y ∈ cs, CdOk y) ∧ Hid (cs.length ≤ k)) (fun S _ => slLen S)
      case atStart => exact ⟨n + 1, m1, c1, o1, [], _, rfl, HIN, HC, HD0, hide (fun y hy => by cases hy), hide (by simp)⟩
      case round =>
        obtain ⟨k, m, c, o, cs, sv, rfl, HI, HC, HD, HOK, HLN⟩ := hrel
        clear HIN HD0
        obtain ⟨oc, cc, hsv, hcl, hcm, _, _⟩ := conds_owned HC.out.own HOK.out
        subst hsv
        have c0 := HC.out.cell 0
        have c1 := HC.out.cell 1
        have c2 := HC.out.cell 2
        have c3 := HC.out.cell 3
        simp only [ruleC, List.getElem?_toArray, List.getElem?_cons_zero, List.getElem?_cons_succ] at c0 c1 c2 c3
        by_cases hm0 : m = 0
        · subst hm0
          have HDS := hide (show docConds ws.length true (ws.drop (n + 1)) = some cs by
            rw [HD.out, List.drop_eq_nil_of_le (by have := HI.out.2.1; have := HN.out; omega)]
            simp [docConds])
          have hx5 : (wr.setCell ⟨w.heap.size, 0, none⟩ (.int .i64 nr)).cell? ⟨r5, 0, none⟩ = some (.int .i64 nr) := (cell_heap (Below.heap_setCell wr ⟨w.heap.size, 0, none⟩ _ r5 (show r5 ≠ w.heap.size by have := HC.out.weak.le; omega)) 0).trans c0
          have hres := HC.out.weak.res
          obtain ⟨rc, hrc⟩ : ∃ rc : Array Value, rc = ruleC nr (.slice oc cs.length cc) ⟨ak, ae⟩ := ⟨_, rfl⟩
          have h1c : rc.all (·.oneCell') = true := by rw [hrc]; exact ruleC_one _ _ _ _ _
          obtain ⟨q0, q1, q2, q3, g0, g1, g2, g3⟩ := res_cells hres
          by_cases hneg : nr < 0
          · have HR := hide (show docRule ws = none by
              rw [HR0.out, HDS.out]
              simp only
              rw [if_pos hneg])
            have z1 : ¬ (0 : Int) ≤ nr := by omega
            go_wp2_with fail
            go_region
            all_goals
              rw [res_set4 hres, ← ruleC_eq nr (.slice oc cs.length cc) ⟨ak, ae⟩, ← hrc]
              go_wp2
              refine bodyPost_ret (v := .tuple #[.agg rc, .bool false]) (results_rule rfl _ (wr.setRow w.heap.size rc).drew w.heap.size rc _ (by rw [hrc]; rfl) rfl (by first | rfl | exact congrArg Value.bool (decide_eq_false (by omega))) (setRow_heap wr _ _ rc _ _ hres)) rfl ⟨?_, (HC.out.done _).1.drew⟩
              rw [HR.out, hrc]
              exact ⟨_, _, _, _, _, hcl, hcm, rfl⟩
          · have HR := hide (show docRule ws = some ⟨nr, cs, ⟨ak, ae⟩⟩ by
              rw [HR0.out, HDS.out]
              simp only
              rw [if_neg hneg])
            have z1 : (0 : Int) ≤ nr := by omega
            go_wp2_with fail
            go_region
            all_goals
              rw [res_set4 hres, ← ruleC_eq nr (.slice oc cs.length cc) ⟨ak, ae⟩, ← hrc]
              go_wp2
              refine bodyPost_ret (v := .tuple #[.agg rc, .bool true]) (results_rule rfl _ (wr.setRow w.heap.size rc).drew w.heap.size rc _ (by rw [hrc]; rfl) rfl (by first | rfl | exact congrArg Value.bool (decide_eq_true (by omega))) (setRow_heap wr _ _ rc _ _ hres)) rfl ⟨?_, (HC.out.done _).1.drew⟩
              obtain ⟨oc', cc', hsv', _, _, hIC, hbs⟩ := conds_owned (own_on (HC.out.done rc).2 (Below.refl _ _).drew) HOK.out
              simp only [Value.slice.injEq] at hsv'
              obtain ⟨rfl, _, rfl⟩ := hsv'
              rw [HR.out]
              exact ⟨oc, cc, by rw [hrc], hcl, hcm, hIC, fun b' off' e => by
                have h1 := hbs b' off' e
                have h2 := HC.out.weak.le
                exact ⟨by omega, h1.2⟩⟩
        · obtain ⟨m', rfl⟩ : ∃ m', m = m' + 1 := ⟨m - 1, by omega⟩
          have ho := HI.out.1 (by omega)
          subst ho
          have hkm := HI.out.2.1
          have hmc := HI.out.2.2.1
          have hc9 := HI.out.2.2.2
          have hkN : k < ws.length := by rw [← HN.out]; omega
          obtain ⟨y, hy⟩ : ∃ y, ws[k]? = some y := ⟨_, List.getElem?_eq_getElem hkN⟩
          have hdr : ws.drop k = y :: ws.drop (k + 1) := by
            rw [List.drop_eq_getElem_cons hkN]
            rw [List.getElem?_eq_getElem hkN] at hy
            rw [Option.some.inj hy]
          have y0 := HC.out.weak.words k y hy
          obtain ⟨yq, hyq⟩ : ∃ q : ByteArray, q = bs y := ⟨_, rfl⟩
          rw [← hyq] at y0
          have hyl : yq.toList = y := by rw [hyq, bs_toList]
          have hcs9 : cs.length ≤ 9001 := by have := HLN.out; omega
          have j1 : (0 : Int) < (m' : Int) + 1 := by omega
          have HY := hide hdr
          clear hyq hy hkN hdr hm0
          have gy := cell_regrown y0
          have hcl' := hcl
          obtain ⟨L, hL⟩ : ∃ L, L = cs.length := ⟨_, rfl⟩
          rw [← hL] at c1 hcl hcs9
          have gs := cell_regrown c1
          have hE : cs.isEmpty = decide (L = 0) := by
            rw [hL]
            cases cs <;> simp
          have HYL := hide hyl
          have HEE := hide hE
          have HLL := hide hL
          clear hyl hE hL
          by_cases hgood : y = (if cs.isEmpty then wIf else wAnd)
          case neg =>
            have HR := hide (show docRule ws = none by
              rw [HR0.out, HD.out, HY.out, docConds, if_neg hgood]
              rfl)
            by_cases hif : y = wIf
            · have b1 : (yq.toList == [105, 102]) = true := by rw [HYL.out, hif]; rfl
              have hL0 : ¬ L = 0 := fun h0 => hgood (by rw [HEE.out, decide_eq_true h0, hif]; rfl)
              have hL1 : ¬ (L : Int) = 0 := by omega
              have b3 : ((L : Int) == 0) = false := by simpa using hL1
              clear hif hgood
              go_wp2_with fail
              refine wp_region_quiet_below (by kernel_rfl) (by kernel_rfl) ?_
              repeat (go_big_quiet_step (fail))
              refine wpQuiet_nil ?_
              intro _ hw'
              obtain ⟨⟨dq, osq⟩, hw''⟩ := hw'
              subst hw''
              have HDq := hide (HC.out.on (below_regrown wr dq osq))
              obtain ⟨Z, hZ⟩ : ∃ Y, Y = grow (redrawn wr dq) osq := ⟨_, rfl⟩
              rw [← hZ] at HDq ⊢
              clear hZ gy gs c0 c1 c2 c3 y0
              have c0 := HDq.out.cell 0
              have c1 := HDq.out.cell 1
              have c2 := HDq.out.cell 2
              have c3 := HDq.out.cell 3
              simp only [ruleC, List.getElem?_toArray, List.getElem?_cons_zero, List.getElem?_cons_succ] at c0 c1 c2 c3
              rw [← HLL.out] at c1
              have hres := HDq.out.weak.res
              obtain ⟨rc, hrc⟩ : ∃ rc : Array Value, rc = ruleC nr (.slice oc L cc) ⟨ak, ae⟩ := ⟨_, rfl⟩
              have h1c : rc.all (·.oneCell') = true := by rw [hrc]; exact ruleC_one _ _ _ _ _
              go_wp2_with (refine wpList_store_row rfl 65 _ _ rfl w.heap.size (ruleC nr (.slice oc L cc) ⟨ak, ae⟩) rfl rfl 65 _ hres size_rule rfl (ruleC_one _ _ _ _ _) ?_)
              refine bodyPost_ret (v := .tuple #[.agg rc, .bool false]) (results_rule rfl _ _ w.heap.size rc _ (by rw [hrc]; rfl) rfl rfl (by rw [hrc]; exact setRow_heap _ _ _ _ _ _ hres)) rfl ⟨?_, (HDq.out.done _).1⟩
              rw [HR.out, hrc]
              exact ⟨_, _, _, _, _, hcl, hcm, rfl⟩
            · have b1 : (yq.toList == [105, 102]) = false := by rw [HYL.out]; exact beq_no hif
              by_cases hand : y = wAnd
              · have b2 : (yq.toList == [97, 110, 100]) = true := by rw [HYL.out, hand]; rfl
                have hL0 : L = 0 := Classical.byContradiction fun h0 => hgood (by rw [HEE.out, decide_eq_false h0, hand]; rfl)
                have hL1 : (L : Int) = 0 := by omega
                have b3 : ((L : Int) == 0) = true := by simpa using hL1
                clear hif hand hgood hL0 hL1
                go_wp2_with fail
                refine wp_region_quiet_below (by kernel_rfl) (by kernel_rfl) ?_
                repeat (go_big_quiet_step (fail))
                refine wpQuiet_nil ?_
                intro _ hw'
                obtain ⟨⟨dq, osq⟩, hw''⟩ := hw'
                subst hw''
                have HDq := hide (HC.out.on (below_regrown wr dq osq))
                obtain ⟨Z, hZ⟩ : ∃ Y, Y = grow (redrawn wr dq) osq := ⟨_, rfl⟩
                rw [← hZ] at HDq ⊢
                clear hZ gy gs c0 c1 c2 c3 y0
                have c0 := HDq.out.cell 0
                have c1 := HDq.out.cell 1
                have c2 := HDq.out.cell 2
                have c3 := HDq.out.cell 3
                simp only [ruleC, List.getElem?_toArray, List.getElem?_cons_zero, List.getElem?_cons_succ] at c0 c1 c2 c3
                rw [← HLL.out] at c1
                have hres := HDq.out.weak.res
                obtain ⟨rc, hrc⟩ : ∃ rc : Array Value, rc = ruleC nr (.slice oc L cc) ⟨ak, ae⟩ := ⟨_, rfl⟩
                have h1c : rc.all (·.oneCell') = true := by rw [hrc]; exact ruleC_one _ _ _ _ _
                go_wp2_with (refine wpList_store_row rfl 65 _ _ rfl w.heap.size (ruleC nr (.slice oc L cc) ⟨ak, ae⟩) rfl rfl 65 _ hres size_rule rfl (ruleC_one _ _ _ _ _) ?_)
                refine bodyPost_ret (v := .tuple #[.agg rc, .bool false]) (results_rule rfl _ _ w.heap.size rc _ (by rw [hrc]; rfl) rfl rfl (by rw [hrc]; exact setRow_heap _ _ _ _ _ _ hres)) rfl ⟨?_, (HDq.out.done _).1⟩
                rw [HR.out, hrc]
                exact ⟨_, _, _, _, _, hcl, hcm, rfl⟩
              · have b2 : (yq.toList == [97, 110, 100]) = false := by rw [HYL.out]; exact beq_no hand
                clear hif hand hgood
                go_wp2_with fail
                refine wp_region_quiet_below (by kernel_rfl) (by kernel_rfl) ?_
                repeat (go_big_quiet_step (fail))
                refine wpQuiet_nil ?_
                intro _ hw'
                obtain ⟨⟨dq, osq⟩, hw''⟩ := hw'
                subst hw''
                have HDq := hide (HC.out.on (below_regrown wr dq osq))
                obtain ⟨Z, hZ⟩ : ∃ Y, Y = grow (redrawn wr dq) osq := ⟨_, rfl⟩
                rw [← hZ] at HDq ⊢
                clear hZ gy gs c0 c1 c2 c3 y0
                have c0 := HDq.out.cell 0
                have c1 := HDq.out.cell 1
                have c2 := HDq.out.cell 2
                have c3 := HDq.out.cell 3
                simp only [ruleC, List.getElem?_toArray, List.getElem?_cons_zero, List.getElem?_cons_succ] at c0 c1 c2 c3
                rw [← HLL.out] at c1
                have hres := HDq.out.weak.res
                obtain ⟨rc, hrc⟩ : ∃ rc : Array Value, rc = ruleC nr (.slice oc L cc) ⟨ak, ae⟩ := ⟨_, rfl⟩
                have h1c : rc.all (·.oneCell') = true := by rw [hrc]; exact ruleC_one _ _ _ _ _
                go_wp2_with (refine wpList_store_row rfl 65 _ _ rfl w.heap.size (ruleC nr (.slice oc L cc) ⟨ak, ae⟩) rfl rfl 65 _ hres size_rule rfl (ruleC_one _ _ _ _ _) ?_)
                refine bodyPost_ret (v := .tuple #[.agg rc, .bool false]) (results_rule rfl _ _ w.heap.size rc _ (by rw [hrc]; rfl) rfl rfl (by rw [hrc]; exact setRow_heap _ _ _ _ _ _ hres)) rfl ⟨?_, (HDq.out.done _).1⟩
                rw [HR.out, hrc]
                exact ⟨_, _, _, _, _, hcl, hcm, rfl⟩
          case pos =>
            have hb : ∃ b1 b2 b3 : Bool, (yq.toList == [105, 102]) = b1 ∧ (yq.toList == [97, 110, 100]) = b2 ∧ ((L : Int) == 0) = b3 ∧ ((b1 = true ∧ b3 = true) ∨ (b1 = false ∧ b2 = true ∧ b3 = false)) := by
              by_cases h0 : L = 0
              · rw [HEE.out, decide_eq_true h0] at hgood
                exact ⟨true, _, true, by rw [HYL.out, hgood]; rfl, rfl, by rw [h0]; rfl, .inl ⟨rfl, rfl⟩⟩
              · rw [HEE.out, decide_eq_false h0] at hgood
                refine ⟨false, true, false, by rw [HYL.out, hgood]; rfl, by rw [HYL.out, hgood]; rfl, ?_, .inr ⟨rfl, rfl, rfl⟩⟩
                have : ¬ (L : Int) = 0 := by omega
                simpa using this
            obtain ⟨t1, ht1⟩ : ∃ t1, t1 = ws.drop (k + 1) := ⟨_, rfl⟩
            have ht1l : t1.length = m' := by rw [ht1, List.length_drop, ← HN.out]; omega
            obtain ⟨o1, ho1⟩ : ∃ z, z = if c = 1 then off + k else off + k + 1 := ⟨_, rfl⟩
            obtain ⟨c1', hc1'⟩ : ∃ z, z = c - 1 := ⟨_, rfl⟩
            have hsl1 : ∀ W, (Instr.slice 89 (.slice (some ⟨b, off + k, none⟩) (m' + 1) c) (some (.int .i64 1)) none none).run Tryz.prog W = .ok (.slice (some ⟨b, o1, none⟩) m' c1') W := fun W => by
              rw [slice_from b (off + k) (m' + 1) c 1 1 rfl (by omega) hmc W, ← ho1, ← hc1']
              rfl
            have HSTR : ∀ X, UX w r5 b off ws nr cs ⟨ak, ae⟩ (.slice oc cs.length cc) X → IsStrs (some ⟨b, o1, none⟩) t1 X := fun X hX => ⟨fun h0 => by
              have ho : o1 = off + (k + 1) := by rw [ho1, if_neg (by omega)]; omega
              rw [ho, ht1]
              exact ⟨b, off + (k + 1), rfl, by have := hX.weak.lt; have := hX.weak.le; omega, hX.weak.words.drop (k + 1)⟩⟩
            have hsm1 : ∀ z ∈ t1, z.length ≤ 9000 := fun z hz => HSM.out z (by rw [ht1] at hz; exact List.mem_of_mem_drop hz)
            have HCD := fun X hX => dcond_any t1 hsm1 (some ⟨b, o1, none⟩) c1' X (HSTR X hX) (by omega)
            rw [ht1l] at HCD
            have HT1 := hide ht1
            have HT1L := hide ht1l
            have HGD := hide hgood
            clear hsm1 HSTR ht1 ht1l ho1 hgood hc1'
            have key : ∀ Z, UX w r5 b off ws nr cs ⟨ak, ae⟩ (.slice oc cs.length cc) Z → True := fun _ _ => trivial
            obtain ⟨b1, b2, b3, e1, e2, e3, hcase⟩ := hb
            have HAFT : True := trivial
            rcases hcase with ⟨rfl, rfl⟩ | ⟨rfl, rfl, rfl⟩
            · go_wp2_with fail
              refine wp_region_quiet_below (by kernel_rfl) (by kernel_rfl) ?_
              repeat (go_big_quiet_step (fail))
              refine wpQuiet_nil ?_
              intro _ hw'
              obtain ⟨⟨dq, osq⟩, hw''⟩ := hw'
              subst hw''
              have HDq := hide (HC.out.on (below_regrown wr dq osq))
              obtain ⟨Z, hZ⟩ : ∃ Y, Y = grow (redrawn wr dq) osq := ⟨_, rfl⟩
              rw [← hZ] at HDq ⊢
              clear hZ gy gs c0 c1 c2 c3 y0
              go_wp2_with fail
              refine (HCD _ HDq.out).mono ?_
              rintro e Z1 ⟨rfl, hZ1⟩
              replace HDq := hide (HDq.out.on hZ1)
              clear hZ1 HCD hsl1
              cases hdc : docCond t1 with
              | none =>
                have HR := hide (show docRule ws = none by
                  rw [HR0.out, HD.out, HY.out, docConds, if_pos HGD.out, ← HT1.out, hdc]
                  rfl)
                unfold docCondV condC zeroCD noNet
                simp only
                have HU3 := hide (HDq.out.on (box_below Z1 (.cells #[.int .i64 0, .int .i64 0, .int .u64 0, .int .u64 0, .string ⟨#[]⟩, .int .u32 0, .int .i64 0, .int .i64 0, .int .i64 0] 69)))
                have c0 := HU3.out.cell 0
                have c1 := HU3.out.cell 1
                have c2 := HU3.out.cell 2
                have c3 := HU3.out.cell 3
                simp only [ruleC, List.getElem?_toArray, List.getElem?_cons_zero, List.getElem?_cons_succ] at c0 c1 c2 c3
                have hres := HU3.out.weak.res
                obtain ⟨rc, hrc⟩ : ∃ rc : Array Value, rc = ruleC nr (.slice oc cs.length cc) ⟨ak, ae⟩ := ⟨_, rfl⟩
                obtain ⟨q0, q1, q2, q3, g0, g1, g2, g3⟩ := res_cells hres
                go_wp2
                rw [res_set4 hres, ← ruleC_eq nr (.slice oc cs.length cc) ⟨ak, ae⟩, ← hrc]
                refine bodyPost_ret (v := .tuple #[.agg rc, .bool false]) (results_rule rfl _ _ w.heap.size rc _ (by rw [hrc]; rfl) rfl rfl (setRow_heap _ _ _ _ _ _ hres)) rfl ⟨?_, (HU3.out.done _).1⟩
                rw [HR.out, hrc]
                exact ⟨_, _, _, _, _, hcl', hcm, rfl⟩
              | some cn =>
                obtain ⟨⟨arg, op, v, mm, gl, ⟨ip, bb, lo, hh⟩⟩, n2⟩ := cn
                obtain ⟨hn21, hn25, hn2l, hcok⟩ := docCond_le hdc
                rw [HT1L.out] at hn2l
                have HCOK := hide hcok
                unfold docCondV condC
                simp only
                obtain ⟨inf, hi0, hz0, hz1, hz2⟩ := info_cond
                obtain ⟨BX, hBX⟩ : ∃ o : Obj, o = .cells #[.int .i64 arg, .int .i64 op, .int .u64 v, .int .u64 mm, .string gl, .int .u32 ip, .int .i64 bb, .int .i64 lo, .int .i64 hh] 69 := ⟨_, rfl⟩
                have HU3 := hide (HDq.out.on (box_below Z1 (.cells #[.int .i64 arg, .int .i64 op, .int .u64 v, .int .u64 mm, .string gl, .int .u32 ip, .int .i64 bb, .int .i64 lo, .int .i64 hh] 69)))
                have c1 := HU3.out.cell 1
                simp only [ruleC, List.getElem?_toArray, List.getElem?_cons_zero, List.getElem?_cons_succ] at c1
                have n20 : ¬ (n2 : Int) = 0 := by omega
                obtain ⟨o2, ho2⟩ : ∃ z, z = if c = 1 + n2 then off + k else off + k + (1 + n2) := ⟨_, rfl⟩
                obtain ⟨m2, hm2⟩ : ∃ z, z = m' + 1 - (1 + n2) := ⟨_, rfl⟩
                obtain ⟨c2', hc2'⟩ : ∃ z, z = c - (1 + n2) := ⟨_, rfl⟩
                have hsl2 : ∀ W, (Instr.slice 89 (.slice (some ⟨b, off + k, none⟩) (m' + 1) c) (some (.int .i64 (1 + (n2 : Int)))) none none).run Tryz.prog W = .ok (.slice (some ⟨b, o2, none⟩) m2 c2') W := fun W => by
                  rw [slice_from b (off + k) (m' + 1) c (1 + n2) (1 + (n2 : Int)) (by omega) (by omega) hmc W, ← ho2, ← hm2, ← hc2']
                have s5 : IntKind.i64.wrap (1 + (n2 : Int)) = 1 + (n2 : Int) := by rw [IntKind.wrap_i64]; omega
                have HI2 := hide (show (0 < m2 → o2 = off + (k + 1 + n2)) ∧ k + 1 + n2 + m2 = N ∧ m2 ≤ c2' ∧ c2' ≤ maxLen from ⟨fun h0 => by rw [ho2, if_neg (by omega)]; omega, by omega, by omega, by omega⟩)
                have hms : m2 < m' + 1 := by omega
                have HD2 := hide (show docConds ws.length true (ws.drop (n + 1)) = (docConds m2 (cs ++ [(⟨arg, op, v, mm, gl, ⟨ip, bb, lo, hh⟩⟩ : CD)]).isEmpty (ws.drop (k + 1 + n2))).map ((cs ++ [(⟨arg, op, v, mm, gl, ⟨ip, bb, lo, hh⟩⟩ : CD)]) ++ ·) by
                  rw [HD.out, HY.out, ← HT1.out, docConds_step HGD.out hdc, HT1.out, List.drop_drop, docConds_fuel m' m2 false _ (by rw [List.length_drop, ← HN.out]; omega) (by rw [List.length_drop, ← HN.out]; omega), show (cs ++ [(⟨arg, op, v, mm, gl, ⟨ip, bb, lo, hh⟩⟩ : CD)]).isEmpty = false by simp, Option.map_map]
                  congr 1
                  funext l
                  simp)
                have HOK2 := hide (show ∀ y ∈ cs ++ [(⟨arg, op, v, mm, gl, ⟨ip, bb, lo, hh⟩⟩ : CD)], CdOk y from fun y hy => by
                  rcases List.mem_append.1 hy with h | h
                  · exact HOK.out y h
                  · rw [List.mem_singleton] at h; rw [h]; exact HCOK.out)
                have HLN2 := hide (show (cs ++ [(⟨arg, op, v, mm, gl, ⟨ip, bb, lo, hh⟩⟩ : CD)]).length ≤ k + 1 + n2 by have := HLN.out; rw [List.length_append, List.length_singleton]; omega)
                have hcsn : cs.length ≤ 9001 := by have := HLN.out; omega
                have hl5 := HU3.out.weak.lt
                rw [World.size_alloc] at hl5
                clear ho2 hm2 hc2' hkm hdc HGD HT1 HT1L hcok HLL HEE HYL e1 e2 e3
                go_wp2_with (first
                  | (refine wpList_append_lies _ (by rfl) _ _ _ (by rfl) (r5 + 1) 69 inf _ 9 80 Tryz.underlying63 hi0 hz0 hz1 hz2 rfl (by omega) (.slice oc cs.length cc) cs.length (flatC cs) (by rfl) (HU3.out.own.alloc _) ⟨Z1.heap.size + 1, 0, none⟩ 1 1 [.int .i64 arg, .int .i64 op, .int .u64 v, .int .u64 mm, .string gl, .int .u32 ip, .int .i64 bb, .int .i64 lo, .int .i64 hh] (by rfl) (by rfl) (World.news_of_block (cs := #[.int .i64 arg, .int .i64 op, .int .u64 v, .int .u64 mm, .string gl, .int .u32 ip, .int .i64 bb, .int .i64 lo, .int .i64 hh]) (t := 69) (fr := (0, 0)) (by have h := heap_alloc_new (Z1.alloc (.cells #[.int .i64 arg, .int .i64 op, .int .u64 v, .int .u64 mm, .string gl, .int .u32 ip, .int .i64 bb, .int .i64 lo, .int .i64 hh] 69)) (.cells #[.int .i64 arg, .int .i64 op, .int .u64 v, .int .u64 mm, .string gl, .int .u32 ip, .int .i64 bb, .int .i64 lo, .int .i64 hh] 69); rwa [World.size_alloc] at h)) (by simp [Value.oneCell']) (by omega) (by simp only [maxLen]; omega) (by omega) (by rw [World.size_alloc, World.size_alloc]; omega) (Z1.heap.size + 2) (by simp) ?_; intro gg cap1 w2 hown1 hgrow hat hltt; have HW := hide (HU3.out.weak.grown _ hgrow (fun k hk => (HU3.out.own.lt k hk).1)); have HO := hide hown1; have cE : w2.cell? ⟨r5, 1, none⟩ = some (.slice oc cs.length cc) := cell_of_row _ _ 1 _ _ _ HW.out.row; have fE : w2.frozen? ⟨r5, 1, none⟩ = false := frozen_of_row _ _ 1 _ _ HW.out.row; clear hown1 hgrow hat hltt))
                have HS2 := hide (UX.setOwn (cs' := cs ++ [⟨arg, op, v, mm, gl, ⟨ip, bb, lo, hh⟩⟩]) (sv' := .slice (some ⟨gg, 0, none⟩) (cs.length + 1) cap1) HW.out (by rw [List.length_append, List.length_singleton, flatC_snoc]; exact HO.out))
                clear cE fE HW HO HU3 c1
                go_wp2
                go_round
                case rel => exact ⟨k + 1 + n2, m2, c2', o2, _, _, rfl, HI2, HS2, HD2, HOK2, HLN2⟩
                case measure => simp only [slLen]; omega
            · go_wp2_with fail
              refine wp_region_quiet_below (by kernel_rfl) (by kernel_rfl) ?_
              repeat (go_big_quiet_step (fail))
              refine wpQuiet_nil ?_
              intro _ hw'
              obtain ⟨⟨dq, osq⟩, hw''⟩ := hw'
              subst hw''
              have HDq := hide (HC.out.on (below_regrown wr dq osq))
              obtain ⟨Z, hZ⟩ : ∃ Y, Y = grow (redrawn wr dq) osq := ⟨_, rfl⟩
              rw [← hZ] at HDq ⊢
              clear hZ gy gs c0 c1 c2 c3 y0
              go_wp2_with fail
              refine (HCD _ HDq.out).mono ?_
              rintro e Z1 ⟨rfl, hZ1⟩
              replace HDq := hide (HDq.out.on hZ1)
              clear hZ1 HCD hsl1
              cases hdc : docCond t1 with
              | none =>
                have HR := hide (show docRule ws = none by
                  rw [HR0.out, HD.out, HY.out, docConds, if_pos HGD.out, ← HT1.out, hdc]
                  rfl)
                unfold docCondV condC zeroCD noNet
                simp only
                have HU3 := hide (HDq.out.on (box_below Z1 (.cells #[.int .i64 0, .int .i64 0, .int .u64 0, .int .u64 0, .string ⟨#[]⟩, .int .u32 0, .int .i64 0, .int .i64 0, .int .i64 0] 69)))
                have c0 := HU3.out.cell 0
                have c1 := HU3.out.cell 1
                have c2 := HU3.out.cell 2
                have c3 := HU3.out.cell 3
                simp only [ruleC, List.getElem?_toArray, List.getElem?_cons_zero, List.getElem?_cons_succ] at c0 c1 c2 c3
                have hres := HU3.out.weak.res
                obtain ⟨rc, hrc⟩ : ∃ rc : Array Value, rc = ruleC nr (.slice oc cs.length cc) ⟨ak, ae⟩ := ⟨_, rfl⟩
                obtain ⟨q0, q1, q2, q3, g0, g1, g2, g3⟩ := res_cells hres
                go_wp2
                rw [res_set4 hres, ← ruleC_eq nr (.slice oc cs.length cc) ⟨ak, ae⟩, ← hrc]
                refine bodyPost_ret (v := .tuple #[.agg rc, .bool false]) (results_rule rfl _ _ w.heap.size rc _ (by rw [hrc]; rfl) rfl rfl (setRow_heap _ _ _ _ _ _ hres)) rfl ⟨?_, (HU3.out.done _).1⟩
                rw [HR.out, hrc]
                exact ⟨_, _, _, _, _, hcl', hcm, rfl⟩
              | some cn =>
                obtain ⟨⟨arg, op, v, mm, gl, ⟨ip, bb, lo, hh⟩⟩, n2⟩ := cn
                obtain ⟨hn21, hn25, hn2l, hcok⟩ := docCond_le hdc
                rw [HT1L.out] at hn2l
                have HCOK := hide hcok
                unfold docCondV condC
                simp only
                obtain ⟨inf, hi0, hz0, hz1, hz2⟩ := info_cond
                obtain ⟨BX, hBX⟩ : ∃ o : Obj, o = .cells #[.int .i64 arg, .int .i64 op, .int .u64 v, .int .u64 mm, .string gl, .int .u32 ip, .int .i64 bb, .int .i64 lo, .int .i64 hh] 69 := ⟨_, rfl⟩
                have HU3 := hide (HDq.out.on (box_below Z1 (.cells #[.int .i64 arg, .int .i64 op, .int .u64 v, .int .u64 mm, .string gl, .int .u32 ip, .int .i64 bb, .int .i64 lo, .int .i64 hh] 69)))
                have c1 := HU3.out.cell 1
                simp only [ruleC, List.getElem?_toArray, List.getElem?_cons_zero, List.getElem?_cons_succ] at c1
                have n20 : ¬ (n2 : Int) = 0 := by omega
                obtain ⟨o2, ho2⟩ : ∃ z, z = if c = 1 + n2 then off + k else off + k + (1 + n2) := ⟨_, rfl⟩
                obtain ⟨m2, hm2⟩ : ∃ z, z = m' + 1 - (1 + n2) := ⟨_, rfl⟩
                obtain ⟨c2', hc2'⟩ : ∃ z, z = c - (1 + n2) := ⟨_, rfl⟩
                have hsl2 : ∀ W, (Instr.slice 89 (.slice (some ⟨b, off + k, none⟩) (m' + 1) c) (some (.int .i64 (1 + (n2 : Int)))) none none).run Tryz.prog W = .ok (.slice (some ⟨b, o2, none⟩) m2 c2') W := fun W => by
                  rw [slice_from b (off + k) (m' + 1) c (1 + n2) (1 + (n2 : Int)) (by omega) (by omega) hmc W, ← ho2, ← hm2, ← hc2']
                have s5 : IntKind.i64.wrap (1 + (n2 : Int)) = 1 + (n2 : Int) := by rw [IntKind.wrap_i64]; omega
                have HI2 := hide (show (0 < m2 → o2 = off + (k + 1 + n2)) ∧ k + 1 + n2 + m2 = N ∧ m2 ≤ c2' ∧ c2' ≤ maxLen from ⟨fun h0 => by rw [ho2, if_neg (by omega)]; omega, by omega, by omega, by omega⟩)
                have hms : m2 < m' + 1 := by omega
                have HD2 := hide (show docConds ws.length true (ws.drop (n + 1)) = (docConds m2 (cs ++ [(⟨arg, op, v, mm, gl, ⟨ip, bb, lo, hh⟩⟩ : CD)]).isEmpty (ws.drop (k + 1 + n2))).map ((cs ++ [(⟨arg, op, v, mm, gl, ⟨ip, bb, lo, hh⟩⟩ : CD)]) ++ ·) by
                  rw [HD.out, HY.out, ← HT1.out, docConds_step HGD.out hdc, HT1.out, List.drop_drop, docConds_fuel m' m2 false _ (by rw [List.length_drop, ← HN.out]; omega) (by rw [List.length_drop, ← HN.out]; omega), show (cs ++ [(⟨arg, op, v, mm, gl, ⟨ip, bb, lo, hh⟩⟩ : CD)]).isEmpty = false by simp, Option.map_map]
                  congr 1
                  funext l
                  simp)
                have HOK2 := hide (show ∀ y ∈ cs ++ [(⟨arg, op, v, mm, gl, ⟨ip, bb, lo, hh⟩⟩ : CD)], CdOk y from fun y hy => by
                  rcases List.mem_append.1 hy with h | h
                  · exact HOK.out y h
                  · rw [List.mem_singleton] at h; rw [h]; exact HCOK.out)
                have HLN2 := hide (show (cs ++ [(⟨arg, op, v, mm, gl, ⟨ip, bb, lo, hh⟩⟩ : CD)]).length ≤ k + 1 + n2 by have := HLN.out; rw [List.length_append, List.length_singleton]; omega)
                have hcsn : cs.length ≤ 9001 := by have := HLN.out; omega
                have hl5 := HU3.out.weak.lt
                rw [World.size_alloc] at hl5
                clear ho2 hm2 hc2' hkm hdc HGD HT1 HT1L hcok HLL HEE HYL e1 e2 e3
                go_wp2_with (first
                  | (refine wpList_append_lies _ (by rfl) _ _ _ (by rfl) (r5 + 1) 69 inf _ 9 80 Tryz.underlying63 hi0 hz0 hz1 hz2 rfl (by omega) (.slice oc cs.length cc) cs.length (flatC cs) (by rfl) (HU3.out.own.alloc _) ⟨Z1.heap.size + 1, 0, none⟩ 1 1 [.int .i64 arg, .int .i64 op, .int .u64 v, .int .u64 mm, .string gl, .int .u32 ip, .int .i64 bb, .int .i64 lo, .int .i64 hh] (by rfl) (by rfl) (World.news_of_block (cs := #[.int .i64 arg, .int .i64 op, .int .u64 v, .int .u64 mm, .string gl, .int .u32 ip, .int .i64 bb, .int .i64 lo, .int .i64 hh]) (t := 69) (fr := (0, 0)) (by have h := heap_alloc_new (Z1.alloc (.cells #[.int .i64 arg, .int .i64 op, .int .u64 v, .int .u64 mm, .string gl, .int .u32 ip, .int .i64 bb, .int .i64 lo, .int .i64 hh] 69)) (.cells #[.int .i64 arg, .int .i64 op, .int .u64 v, .int .u64 mm, .string gl, .int .u32 ip, .int .i64 bb, .int .i64 lo, .int .i64 hh] 69); rwa [World.size_alloc] at h)) (by simp [Value.oneCell']) (by omega) (by simp only [maxLen]; omega) (by omega) (by rw [World.size_alloc, World.size_alloc]; omega) (Z1.heap.size + 2) (by simp) ?_; intro gg cap1 w2 hown1 hgrow hat hltt; have HW := hide (HU3.out.weak.grown _ hgrow (fun k hk => (HU3.out.own.lt k hk).1)); have HO := hide hown1; have cE : w2.cell? ⟨r5, 1, none⟩ = some (.slice oc cs.length cc) := cell_of_row _ _ 1 _ _ _ HW.out.row; have fE : w2.frozen? ⟨r5, 1, none⟩ = false := frozen_of_row _ _ 1 _ _ HW.out.row; clear hown1 hgrow hat hltt))
                have HS2 := hide (UX.setOwn (cs' := cs ++ [⟨arg, op, v, mm, gl, ⟨ip, bb, lo, hh⟩⟩]) (sv' := .slice (some ⟨gg, 0, none⟩) (cs.length + 1) cap1) HW.out (by rw [List.length_append, List.length_singleton, flatC_snoc]; exact HO.out))
                clear cE fE HW HO HU3 c1
                go_wp2
                go_round
                case rel => exact ⟨k + 1 + n2, m2, c2', o2, _, _, rfl, HI2, HS2, HD2, HOK2, HLN2⟩
                case measure => simp only [slLen]; omega
end Go.Proofs.YtkogafponpjdnaaGreatDoor

/- The walk of the document's class. -/
namespace Go.Proofs.YtkogafponpjdnaaGreatDoor.Gl
open Go.RowKit

/-- Where the class ends, or -1. -/
def rclassV (p : ByteArray) (t : Nat) : Int := match classR (p.extract t p.size) with
  | none => -1
  | some (_, n) => t + n
theorem rclassV_none {p : ByteArray} {t : Nat} (h : classR (p.extract t p.size) = none) : rclassV p t = -1 := by unfold rclassV; rw [h]
theorem rclassV_some {p : ByteArray} {t n : Nat} {f : Nat → Bool} (h : classR (p.extract t p.size) = some (f, n)) : rclassV p t = t + n := by unfold rclassV; rw [h]

theorem memberAt_extract (p : ByteArray) (t k : Nat) (ht : t ≤ p.size) (hk : t ≤ k) : memberAt (p.extract t p.size) (k - t) = memberN (p.size - k) (byteAt p k) (byteAt p (k + 1)) (byteAt p (k + 2)) := by
  unfold memberAt
  rw [size_extract, byteAt_extract p t _ ht, byteAt_extract p t _ ht, byteAt_extract p t _ ht, show t + (k - t) = k by omega, show t + (k - t + 1) = k + 1 by omega, show t + (k - t + 2) = k + 2 by omega, show p.size - t - (k - t) = p.size - k by omega]

/-- A member there, in absolute places. -/
theorem scan_member {p : ByteArray} {t k fu v : Nat} {f : Nat → Bool} (ht : t ≤ p.size) (hk : t ≤ k) (hlt : k < p.size) (hne : byteAt p k ≠ 93) (hm : memberN (p.size - k) (byteAt p k) (byteAt p (k + 1)) (byteAt p (k + 2)) = v) :
    (v = 0 → scan (fu + 1) (p.extract t p.size) (k - t) f = none) ∧ (v ≠ 0 → ∃ g, scan (fu + 1) (p.extract t p.size) (k - t) f = scan fu (p.extract t p.size) (k + v - t) g) := by
  have h1 : k - t < (p.extract t p.size).size ∧ byteAt (p.extract t p.size) (k - t) ≠ 93 := by
    rw [size_extract, byteAt_extract p t _ ht, show t + (k - t) = k by omega]
    exact ⟨by omega, hne⟩
  have h2 : memberAt (p.extract t p.size) (k - t) = v := (memberAt_extract p t k ht hk).trans hm
  constructor
  · intro hv
    rw [scan, if_pos h1, h2, if_pos hv]
  · intro hv
    rw [scan, if_pos h1, h2, if_neg hv, show k - t + v = k + v - t by omega]
    exact ⟨_, rfl⟩
theorem scan_stop {p : ByteArray} {t k fu : Nat} {f : Nat → Bool} (ht : t ≤ p.size) (hk : t ≤ k) (h : ¬ (k < p.size ∧ byteAt p k ≠ 93)) : scan (fu + 1) (p.extract t p.size) (k - t) f = some (k - t, f) := by
  rw [scan, if_neg]
  rw [size_extract, byteAt_extract p t _ ht, show t + (k - t) = k by omega]
  intro h'
  exact h ⟨by omega, h'.2⟩

set_option maxRecDepth 10000 in
set_option maxHeartbeats 1000000 in
theorem rclass_yes (p : ByteArray) (t : Nat) (_ht : t < p.size) (hz : p.size ≤ 1000) (hn : notB (p.extract t p.size) = true) (hlt1 : t + 1 < p.size) (b1 : ((byteAt p (t + 1) : Int) == 33) = true) (w : World) :
    Calls Tryz.prog 72 #[.string p, .int .i64 t] w fun e w' => e = .returned (.int .i64 (rclassV p t)) ∧ w' = w := by
  have hB : classBegin (p.extract t p.size) = 2 := by unfold classBegin; rw [hn]; rfl
  have hC : classR (p.extract t p.size) = classFin true 2 (p.size - t) (scan (p.size - t + 1) (p.extract t p.size) 2 fun _ => false) := by unfold classR; rw [hn, hB, size_extract]
  have HC := hide hC
  clear hC hB hn
  have e1 := byteAt_eq p (t + 1) hlt1
  have d0 : decide ((t : Int) + 1 < (p.size : Int)) = true := by simp; omega
  · skip
    go_enter Tryz.func72, Tryz.ntmps72
    go_wp2_with fail
    go_loop [5, 6] (fun i c => ∃ (k : Nat) (f : Nat → Bool) (cnt fuel : Nat), t ≤ k ∧ k ≤ p.size ∧ i = .int .i64 k ∧ c = .int .i64 cnt ∧ cnt + t + 2 ≤ k ∧ (cnt = 0 ↔ k = t + 2) ∧ p.size - k < fuel ∧ scan fuel (p.extract t p.size) (k - t) f = scan (p.size - t + 1) (p.extract t p.size) 2 (fun _ => false)) (fun i _ => p.size - (intOf i).toNat)
    case atStart => exact ⟨t + 2, fun _ => false, 0, p.size - t + 1, by omega, by omega, by go_num, rfl, by omega, by simp, by omega, by rw [show t + 2 - t = 2 by omega]⟩
    case round =>
      obtain ⟨k, f, cnt, fuel, hk1, hk2, rfl, rfl, hcnt, hcz, hfuel, hsc⟩ := hrel
      obtain ⟨fu, rfl⟩ : ∃ fu, fuel = fu + 1 := ⟨fuel - 1, by omega⟩
      have Hsc := hide hsc
      have Hcz := hide hcz
      clear hsc hcz
      by_cases hgo : k < p.size ∧ byteAt p k ≠ 93
      · obtain ⟨hlt, hne⟩ := hgo
        have ek := byteAt_eq p k hlt
        have bk : (((byteAt p k : Nat) : Int) != 93) = true := by rw [bne_iff_ne]; omega
        have dk : decide ((k : Int) < (p.size : Int)) = true := by simp; omega
        cases n0 : nameB (byteAt p k)
        · have hm : memberN (p.size - k) (byteAt p k) (byteAt p (k + 1)) (byteAt p (k + 2)) = 0 := by unfold memberN; rw [if_neg (by rw [n0]; simp)]
          have HV := hide (rclassV_none (by rw [HC.out, ← Hsc.out, (scan_member (by omega) hk1 hlt hne hm).1 rfl]; rfl))
          clear HC Hsc hm
          go_wp2_with (go_at_call 85; refine (letter_any _ _).mono ?_; rintro e w' ⟨rfl, rfl⟩)
          go_ret
          exact ⟨ret_int (by rw [HV.out]), rfl⟩
        · by_cases h1 : k + 1 < p.size
          · have d1 : decide ((k : Int) + 1 < (p.size : Int)) = true := by simp; omega
            have e1 := byteAt_eq p (k + 1) h1
            by_cases h45 : byteAt p (k + 1) = 45
            · have b45 : (((byteAt p (k + 1) : Nat) : Int) == 45) = true := by rw [beq_iff_eq]; omega
              by_cases h2 : k + 2 < p.size
              · have b2 : ((k : Int) + 1 + 1 == (p.size : Int)) = false := by rw [beq_eq_false_iff_ne]; omega
                have b2' : ((k : Int) + 2 == (p.size : Int)) = false := by rw [beq_eq_false_iff_ne]; omega
                have e2 := byteAt_eq p (k + 2) h2
                cases n2 : nameB (byteAt p (k + 2))
                · have hm : memberN (p.size - k) (byteAt p k) (byteAt p (k + 1)) (byteAt p (k + 2)) = 0 := by unfold memberN; rw [if_pos n0, if_neg (by omega), if_pos h45, if_neg (by omega), if_neg (by rw [n2]; simp)]
                  clear h45
                  have HV := hide (rclassV_none (by rw [HC.out, ← Hsc.out, (scan_member (by omega) hk1 hlt hne hm).1 rfl]; rfl))
                  clear HC Hsc hm
                  go_wp2_with (go_at_call 85; refine (letter_any _ _).mono ?_; rintro e w' ⟨rfl, rfl⟩)
                  go_ret
                  exact ⟨ret_int (by rw [HV.out]), rfl⟩
                · by_cases hlo : byteAt p (k + 2) < byteAt p k
                  · have dl : decide ((byteAt p (k + 2) : Int) < (byteAt p k : Int)) = true := by simp; omega
                    have hm : memberN (p.size - k) (byteAt p k) (byteAt p (k + 1)) (byteAt p (k + 2)) = 0 := by unfold memberN; rw [if_pos n0, if_neg (by omega), if_pos h45, if_neg (by omega), if_pos n2, if_pos hlo]
                    clear h45
                    have HV := hide (rclassV_none (by rw [HC.out, ← Hsc.out, (scan_member (by omega) hk1 hlt hne hm).1 rfl]; rfl))
                    clear HC Hsc hm
                    go_wp2_with (go_at_call 85; refine (letter_any _ _).mono ?_; rintro e w' ⟨rfl, rfl⟩)
                    go_ret
                    exact ⟨ret_int (by rw [HV.out]), rfl⟩
                  · have dl : decide ((byteAt p (k + 2) : Int) < (byteAt p k : Int)) = false := by simp; omega
                    have hm : memberN (p.size - k) (byteAt p k) (byteAt p (k + 1)) (byteAt p (k + 2)) = 3 := by unfold memberN; rw [if_pos n0, if_neg (by omega), if_pos h45, if_neg (by omega), if_pos n2, if_neg hlo]
                    clear h45
                    obtain ⟨g, hg⟩ := (scan_member (fu := fu) (f := f) (by omega) hk1 hlt hne hm).2 (by omega)
                    have HG := hide (hg.symm.trans Hsc.out)
                    clear hg HC Hsc hm
                    go_wp2_with (go_at_call 85; refine (letter_any _ _).mono ?_; rintro e w' ⟨rfl, rfl⟩)
                    go_round
                    case rel => exact ⟨k + 3, g, cnt + 1, fu, by omega, by omega, by go_num, by go_num, by omega, by omega, by omega, HG.out⟩
                    case measure => simp [intOf]; omega
              · have b2 : ((k : Int) + 1 + 1 == (p.size : Int)) = true := by rw [beq_iff_eq]; omega
                have b2' : ((k : Int) + 2 == (p.size : Int)) = true := by rw [beq_iff_eq]; omega
                have hm : memberN (p.size - k) (byteAt p k) (byteAt p (k + 1)) (byteAt p (k + 2)) = 0 := by unfold memberN; rw [if_pos n0, if_neg (by omega), if_pos h45, if_pos (by omega)]
                clear h45
                have HV := hide (rclassV_none (by rw [HC.out, ← Hsc.out, (scan_member (by omega) hk1 hlt hne hm).1 rfl]; rfl))
                clear HC Hsc hm
                go_wp2_with (go_at_call 85; refine (letter_any _ _).mono ?_; rintro e w' ⟨rfl, rfl⟩)
                go_ret
                exact ⟨ret_int (by rw [HV.out]), rfl⟩
            · have b45 : (((byteAt p (k + 1) : Nat) : Int) == 45) = false := by rw [beq_eq_false_iff_ne]; omega
              have hm : memberN (p.size - k) (byteAt p k) (byteAt p (k + 1)) (byteAt p (k + 2)) = 1 := by unfold memberN; rw [if_pos n0, if_neg (by omega), if_neg h45]
              clear h45
              obtain ⟨g, hg⟩ := (scan_member (fu := fu) (f := f) (by omega) hk1 hlt hne hm).2 (by omega)
              have HG := hide (hg.symm.trans Hsc.out)
              clear hg HC Hsc hm
              go_wp2_with (go_at_call 85; refine (letter_any _ _).mono ?_; rintro e w' ⟨rfl, rfl⟩)
              go_round
              case rel => exact ⟨k + 1, g, cnt + 1, fu, by omega, by omega, by go_num, by go_num, by omega, by omega, by omega, HG.out⟩
              case measure => simp [intOf]; omega
          · have d1 : decide ((k : Int) + 1 < (p.size : Int)) = false := by simp; omega
            have hm : memberN (p.size - k) (byteAt p k) (byteAt p (k + 1)) (byteAt p (k + 2)) = 1 := by unfold memberN; rw [if_pos n0, if_pos (by omega)]
            obtain ⟨g, hg⟩ := (scan_member (fu := fu) (f := f) (by omega) hk1 hlt hne hm).2 (by omega)
            have HG := hide (hg.symm.trans Hsc.out)
            clear hg HC Hsc hm
            go_wp2_with (go_at_call 85; refine (letter_any _ _).mono ?_; rintro e w' ⟨rfl, rfl⟩)
            go_round
            case rel => exact ⟨k + 1, g, cnt + 1, fu, by omega, by omega, by go_num, by go_num, by omega, by omega, by omega, HG.out⟩
            case measure => simp [intOf]; omega
      · have hst := scan_stop (fu := fu) (f := f) (by omega) hk1 hgo
        have hR0 : classR (p.extract t p.size) = classFin true 2 (p.size - t) (some (k - t, f)) := by rw [HC.out, ← Hsc.out, hst]
        clear HC Hsc hst
        by_cases hend : k = p.size
        · have HV := hide (rclassV_none (by rw [hR0]; simp [classFin, hend]))
          have dk : decide ((k : Int) < (p.size : Int)) = false := by simp; omega
          have be : ((k : Int) == (p.size : Int)) = true := by rw [beq_iff_eq]; omega
          clear hR0 hend hgo
          go_wp2_with fail
          go_ret
          exact ⟨ret_int (by rw [HV.out]), rfl⟩
        · have hlt : k < p.size := by omega
          have h93 : byteAt p k = 93 := Decidable.byContradiction fun h => hgo ⟨hlt, h⟩
          have ek := byteAt_eq p k hlt
          have bk : (((byteAt p k : Nat) : Int) != 93) = false := by rw [bne_eq_false_iff_eq]; omega
          have dk : decide ((k : Int) < (p.size : Int)) = true := by simp; omega
          have be : ((k : Int) == (p.size : Int)) = false := by rw [beq_eq_false_iff_ne]; omega
          clear hgo h93
          by_cases hb : cnt = 0
          · have hkb := Hcz.out.1 hb
            have HV := hide (rclassV_none (by rw [hR0]; simp [classFin, hkb]))
            have bc : ((cnt : Int) == 0) = true := by rw [beq_iff_eq]; omega
            clear hR0 hb hend hkb
            go_wp2_with fail
            go_ret
            exact ⟨ret_int (by rw [HV.out]), rfl⟩
          · have hkb : ¬ k = t + 2 := fun h => hb (Hcz.out.2 h)
            have HV := hide (rclassV_some (p := p) (t := t) (n := k - t + 1) (f := upd (if true = true then fun i => !f i else f) 47 false) (by rw [hR0]; simp only [classFin]; rw [if_neg (by omega)]))
            have bc : ((cnt : Int) == 0) = false := by rw [beq_eq_false_iff_ne]; omega
            clear hR0 hb hend hkb
            go_wp2_with fail
            go_ret
            exact ⟨ret_int (by rw [HV.out]; omega), rfl⟩

set_option maxRecDepth 10000 in
set_option maxHeartbeats 1000000 in
theorem rclass_no (p : ByteArray) (t : Nat) (_ht : t < p.size) (hz : p.size ≤ 1000) (hn : notB (p.extract t p.size) = false) (hlt1 : t + 1 < p.size) (b1 : ((byteAt p (t + 1) : Int) == 33) = false) (w : World) :
    Calls Tryz.prog 72 #[.string p, .int .i64 t] w fun e w' => e = .returned (.int .i64 (rclassV p t)) ∧ w' = w := by
  have hB : classBegin (p.extract t p.size) = 1 := by unfold classBegin; rw [hn]; rfl
  have hC : classR (p.extract t p.size) = classFin false 1 (p.size - t) (scan (p.size - t + 1) (p.extract t p.size) 1 fun _ => false) := by unfold classR; rw [hn, hB, size_extract]
  have HC := hide hC
  clear hC hB hn
  have e1 := byteAt_eq p (t + 1) hlt1
  have d0 : decide ((t : Int) + 1 < (p.size : Int)) = true := by simp; omega
  · skip
    go_enter Tryz.func72, Tryz.ntmps72
    go_wp2_with fail
    go_loop [5, 6] (fun i c => ∃ (k : Nat) (f : Nat → Bool) (cnt fuel : Nat), t ≤ k ∧ k ≤ p.size ∧ i = .int .i64 k ∧ c = .int .i64 cnt ∧ cnt + t + 1 ≤ k ∧ (cnt = 0 ↔ k = t + 1) ∧ p.size - k < fuel ∧ scan fuel (p.extract t p.size) (k - t) f = scan (p.size - t + 1) (p.extract t p.size) 1 (fun _ => false)) (fun i _ => p.size - (intOf i).toNat)
    case atStart => exact ⟨t + 1, fun _ => false, 0, p.size - t + 1, by omega, by omega, by go_num, rfl, by omega, by simp, by omega, by rw [show t + 1 - t = 1 by omega]⟩
    case round =>
      obtain ⟨k, f, cnt, fuel, hk1, hk2, rfl, rfl, hcnt, hcz, hfuel, hsc⟩ := hrel
      obtain ⟨fu, rfl⟩ : ∃ fu, fuel = fu + 1 := ⟨fuel - 1, by omega⟩
      have Hsc := hide hsc
      have Hcz := hide hcz
      clear hsc hcz
      by_cases hgo : k < p.size ∧ byteAt p k ≠ 93
      · obtain ⟨hlt, hne⟩ := hgo
        have ek := byteAt_eq p k hlt
        have bk : (((byteAt p k : Nat) : Int) != 93) = true := by rw [bne_iff_ne]; omega
        have dk : decide ((k : Int) < (p.size : Int)) = true := by simp; omega
        cases n0 : nameB (byteAt p k)
        · have hm : memberN (p.size - k) (byteAt p k) (byteAt p (k + 1)) (byteAt p (k + 2)) = 0 := by unfold memberN; rw [if_neg (by rw [n0]; simp)]
          have HV := hide (rclassV_none (by rw [HC.out, ← Hsc.out, (scan_member (by omega) hk1 hlt hne hm).1 rfl]; rfl))
          clear HC Hsc hm
          go_wp2_with (go_at_call 85; refine (letter_any _ _).mono ?_; rintro e w' ⟨rfl, rfl⟩)
          go_ret
          exact ⟨ret_int (by rw [HV.out]), rfl⟩
        · by_cases h1 : k + 1 < p.size
          · have d1 : decide ((k : Int) + 1 < (p.size : Int)) = true := by simp; omega
            have e1 := byteAt_eq p (k + 1) h1
            by_cases h45 : byteAt p (k + 1) = 45
            · have b45 : (((byteAt p (k + 1) : Nat) : Int) == 45) = true := by rw [beq_iff_eq]; omega
              by_cases h2 : k + 2 < p.size
              · have b2 : ((k : Int) + 1 + 1 == (p.size : Int)) = false := by rw [beq_eq_false_iff_ne]; omega
                have b2' : ((k : Int) + 2 == (p.size : Int)) = false := by rw [beq_eq_false_iff_ne]; omega
                have e2 := byteAt_eq p (k + 2) h2
                cases n2 : nameB (byteAt p (k + 2))
                · have hm : memberN (p.size - k) (byteAt p k) (byteAt p (k + 1)) (byteAt p (k + 2)) = 0 := by unfold memberN; rw [if_pos n0, if_neg (by omega), if_pos h45, if_neg (by omega), if_neg (by rw [n2]; simp)]
                  clear h45
                  have HV := hide (rclassV_none (by rw [HC.out, ← Hsc.out, (scan_member (by omega) hk1 hlt hne hm).1 rfl]; rfl))
                  clear HC Hsc hm
                  go_wp2_with (go_at_call 85; refine (letter_any _ _).mono ?_; rintro e w' ⟨rfl, rfl⟩)
                  go_ret
                  exact ⟨ret_int (by rw [HV.out]), rfl⟩
                · by_cases hlo : byteAt p (k + 2) < byteAt p k
                  · have dl : decide ((byteAt p (k + 2) : Int) < (byteAt p k : Int)) = true := by simp; omega
                    have hm : memberN (p.size - k) (byteAt p k) (byteAt p (k + 1)) (byteAt p (k + 2)) = 0 := by unfold memberN; rw [if_pos n0, if_neg (by omega), if_pos h45, if_neg (by omega), if_pos n2, if_pos hlo]
                    clear h45
                    have HV := hide (rclassV_none (by rw [HC.out, ← Hsc.out, (scan_member (by omega) hk1 hlt hne hm).1 rfl]; rfl))
                    clear HC Hsc hm
                    go_wp2_with (go_at_call 85; refine (letter_any _ _).mono ?_; rintro e w' ⟨rfl, rfl⟩)
                    go_ret
                    exact ⟨ret_int (by rw [HV.out]), rfl⟩
                  · have dl : decide ((byteAt p (k + 2) : Int) < (byteAt p k : Int)) = false := by simp; omega
                    have hm : memberN (p.size - k) (byteAt p k) (byteAt p (k + 1)) (byteAt p (k + 2)) = 3 := by unfold memberN; rw [if_pos n0, if_neg (by omega), if_pos h45, if_neg (by omega), if_pos n2, if_neg hlo]
                    clear h45
                    obtain ⟨g, hg⟩ := (scan_member (fu := fu) (f := f) (by omega) hk1 hlt hne hm).2 (by omega)
                    have HG := hide (hg.symm.trans Hsc.out)
                    clear hg HC Hsc hm
                    go_wp2_with (go_at_call 85; refine (letter_any _ _).mono ?_; rintro e w' ⟨rfl, rfl⟩)
                    go_round
                    case rel => exact ⟨k + 3, g, cnt + 1, fu, by omega, by omega, by go_num, by go_num, by omega, by omega, by omega, HG.out⟩
                    case measure => simp [intOf]; omega
              · have b2 : ((k : Int) + 1 + 1 == (p.size : Int)) = true := by rw [beq_iff_eq]; omega
                have b2' : ((k : Int) + 2 == (p.size : Int)) = true := by rw [beq_iff_eq]; omega
                have hm : memberN (p.size - k) (byteAt p k) (byteAt p (k + 1)) (byteAt p (k + 2)) = 0 := by unfold memberN; rw [if_pos n0, if_neg (by omega), if_pos h45, if_pos (by omega)]
                clear h45
                have HV := hide (rclassV_none (by rw [HC.out, ← Hsc.out, (scan_member (by omega) hk1 hlt hne hm).1 rfl]; rfl))
                clear HC Hsc hm
                go_wp2_with (go_at_call 85; refine (letter_any _ _).mono ?_; rintro e w' ⟨rfl, rfl⟩)
                go_ret
                exact ⟨ret_int (by rw [HV.out]), rfl⟩
            · have b45 : (((byteAt p (k + 1) : Nat) : Int) == 45) = false := by rw [beq_eq_false_iff_ne]; omega
              have hm : memberN (p.size - k) (byteAt p k) (byteAt p (k + 1)) (byteAt p (k + 2)) = 1 := by unfold memberN; rw [if_pos n0, if_neg (by omega), if_neg h45]
              clear h45
              obtain ⟨g, hg⟩ := (scan_member (fu := fu) (f := f) (by omega) hk1 hlt hne hm).2 (by omega)
              have HG := hide (hg.symm.trans Hsc.out)
              clear hg HC Hsc hm
              go_wp2_with (go_at_call 85; refine (letter_any _ _).mono ?_; rintro e w' ⟨rfl, rfl⟩)
              go_round
              case rel => exact ⟨k + 1, g, cnt + 1, fu, by omega, by omega, by go_num, by go_num, by omega, by omega, by omega, HG.out⟩
              case measure => simp [intOf]; omega
          · have d1 : decide ((k : Int) + 1 < (p.size : Int)) = false := by simp; omega
            have hm : memberN (p.size - k) (byteAt p k) (byteAt p (k + 1)) (byteAt p (k + 2)) = 1 := by unfold memberN; rw [if_pos n0, if_pos (by omega)]
            obtain ⟨g, hg⟩ := (scan_member (fu := fu) (f := f) (by omega) hk1 hlt hne hm).2 (by omega)
            have HG := hide (hg.symm.trans Hsc.out)
            clear hg HC Hsc hm
            go_wp2_with (go_at_call 85; refine (letter_any _ _).mono ?_; rintro e w' ⟨rfl, rfl⟩)
            go_round
            case rel => exact ⟨k + 1, g, cnt + 1, fu, by omega, by omega, by go_num, by go_num, by omega, by omega, by omega, HG.out⟩
            case measure => simp [intOf]; omega
      · have hst := scan_stop (fu := fu) (f := f) (by omega) hk1 hgo
        have hR0 : classR (p.extract t p.size) = classFin false 1 (p.size - t) (some (k - t, f)) := by rw [HC.out, ← Hsc.out, hst]
        clear HC Hsc hst
        by_cases hend : k = p.size
        · have HV := hide (rclassV_none (by rw [hR0]; simp [classFin, hend]))
          have dk : decide ((k : Int) < (p.size : Int)) = false := by simp; omega
          have be : ((k : Int) == (p.size : Int)) = true := by rw [beq_iff_eq]; omega
          clear hR0 hend hgo
          go_wp2_with fail
          go_ret
          exact ⟨ret_int (by rw [HV.out]), rfl⟩
        · have hlt : k < p.size := by omega
          have h93 : byteAt p k = 93 := Decidable.byContradiction fun h => hgo ⟨hlt, h⟩
          have ek := byteAt_eq p k hlt
          have bk : (((byteAt p k : Nat) : Int) != 93) = false := by rw [bne_eq_false_iff_eq]; omega
          have dk : decide ((k : Int) < (p.size : Int)) = true := by simp; omega
          have be : ((k : Int) == (p.size : Int)) = false := by rw [beq_eq_false_iff_ne]; omega
          clear hgo h93
          by_cases hb : cnt = 0
          · have hkb := Hcz.out.1 hb
            have HV := hide (rclassV_none (by rw [hR0]; simp [classFin, hkb]))
            have bc : ((cnt : Int) == 0) = true := by rw [beq_iff_eq]; omega
            clear hR0 hb hend hkb
            go_wp2_with fail
            go_ret
            exact ⟨ret_int (by rw [HV.out]), rfl⟩
          · have hkb : ¬ k = t + 1 := fun h => hb (Hcz.out.2 h)
            have HV := hide (rclassV_some (p := p) (t := t) (n := k - t + 1) (f := upd (if false = true then fun i => !f i else f) 47 false) (by rw [hR0]; simp only [classFin]; rw [if_neg (by omega)]))
            have bc : ((cnt : Int) == 0) = false := by rw [beq_eq_false_iff_ne]; omega
            clear hR0 hb hend hkb
            go_wp2_with fail
            go_ret
            exact ⟨ret_int (by rw [HV.out]; omega), rfl⟩

set_option maxRecDepth 10000 in
set_option maxHeartbeats 1000000 in
theorem rclass_end (p : ByteArray) (t : Nat) (_ht : t < p.size) (hz : p.size ≤ 1000) (hn : notB (p.extract t p.size) = false) (hlt1 : ¬ t + 1 < p.size) (w : World) :
    Calls Tryz.prog 72 #[.string p, .int .i64 t] w fun e w' => e = .returned (.int .i64 (rclassV p t)) ∧ w' = w := by
  have hB : classBegin (p.extract t p.size) = 1 := by unfold classBegin; rw [hn]; rfl
  have hC : classR (p.extract t p.size) = classFin false 1 (p.size - t) (scan (p.size - t + 1) (p.extract t p.size) 1 fun _ => false) := by unfold classR; rw [hn, hB, size_extract]
  have HC := hide hC
  clear hC hB hn
  have d0 : decide ((t : Int) + 1 < (p.size : Int)) = false := by simp; omega
  · skip
    go_enter Tryz.func72, Tryz.ntmps72
    go_wp2_with fail
    go_loop [5, 6] (fun i c => ∃ (k : Nat) (f : Nat → Bool) (cnt fuel : Nat), t ≤ k ∧ k ≤ p.size ∧ i = .int .i64 k ∧ c = .int .i64 cnt ∧ cnt + t + 1 ≤ k ∧ (cnt = 0 ↔ k = t + 1) ∧ p.size - k < fuel ∧ scan fuel (p.extract t p.size) (k - t) f = scan (p.size - t + 1) (p.extract t p.size) 1 (fun _ => false)) (fun i _ => p.size - (intOf i).toNat)
    case atStart => exact ⟨t + 1, fun _ => false, 0, p.size - t + 1, by omega, by omega, by go_num, rfl, by omega, by simp, by omega, by rw [show t + 1 - t = 1 by omega]⟩
    case round =>
      obtain ⟨k, f, cnt, fuel, hk1, hk2, rfl, rfl, hcnt, hcz, hfuel, hsc⟩ := hrel
      obtain ⟨fu, rfl⟩ : ∃ fu, fuel = fu + 1 := ⟨fuel - 1, by omega⟩
      have Hsc := hide hsc
      have Hcz := hide hcz
      clear hsc hcz
      by_cases hgo : k < p.size ∧ byteAt p k ≠ 93
      · exfalso; omega
      · have hst := scan_stop (fu := fu) (f := f) (by omega) hk1 hgo
        have hR0 : classR (p.extract t p.size) = classFin false 1 (p.size - t) (some (k - t, f)) := by rw [HC.out, ← Hsc.out, hst]
        clear HC Hsc hst
        by_cases hend : k = p.size
        · have HV := hide (rclassV_none (by rw [hR0]; simp [classFin, hend]))
          have dk : decide ((k : Int) < (p.size : Int)) = false := by simp; omega
          have be : ((k : Int) == (p.size : Int)) = true := by rw [beq_iff_eq]; omega
          clear hR0 hend hgo
          go_wp2_with fail
          go_ret
          exact ⟨ret_int (by rw [HV.out]), rfl⟩
        · have hlt : k < p.size := by omega
          have h93 : byteAt p k = 93 := Decidable.byContradiction fun h => hgo ⟨hlt, h⟩
          have ek := byteAt_eq p k hlt
          have bk : (((byteAt p k : Nat) : Int) != 93) = false := by rw [bne_eq_false_iff_eq]; omega
          have dk : decide ((k : Int) < (p.size : Int)) = true := by simp; omega
          have be : ((k : Int) == (p.size : Int)) = false := by rw [beq_eq_false_iff_ne]; omega
          clear hgo h93
          by_cases hb : cnt = 0
          · have hkb := Hcz.out.1 hb
            have HV := hide (rclassV_none (by rw [hR0]; simp [classFin, hkb]))
            have bc : ((cnt : Int) == 0) = true := by rw [beq_iff_eq]; omega
            clear hR0 hb hend hkb
            go_wp2_with fail
            go_ret
            exact ⟨ret_int (by rw [HV.out]), rfl⟩
          · have hkb : ¬ k = t + 1 := fun h => hb (Hcz.out.2 h)
            have HV := hide (rclassV_some (p := p) (t := t) (n := k - t + 1) (f := upd (if false = true then fun i => !f i else f) 47 false) (by rw [hR0]; simp only [classFin]; rw [if_neg (by omega)]))
            have bc : ((cnt : Int) == 0) = false := by rw [beq_eq_false_iff_ne]; omega
            clear hR0 hb hend hkb
            go_wp2_with fail
            go_ret
            exact ⟨ret_int (by rw [HV.out]; omega), rfl⟩

theorem rclass_any (p : ByteArray) (t : Nat) (ht : t < p.size) (hz : p.size ≤ 1000) (w : World) :
    Calls Tryz.prog 72 #[.string p, .int .i64 t] w fun e w' => e = .returned (.int .i64 (rclassV p t)) ∧ w' = w := by
  have h : notB (p.extract t p.size) = (decide (1 < p.size - t) && byteAt p (t + 1) == 33) := by unfold notB; rw [size_extract, byteAt_extract p t 1 (by omega)]
  cases hn : notB (p.extract t p.size)
  · by_cases hlt : t + 1 < p.size
    · rw [hn] at h
      refine rclass_no p t ht hz hn hlt ?_ w
      rw [beq_eq_false_iff_ne]
      intro h33
      rw [show byteAt p (t + 1) = 33 by omega] at h
      simp at h
      omega
    · exact rclass_end p t ht hz hn hlt w
  · rw [hn] at h
    have h' := h.symm
    simp at h'
    exact rclass_yes p t ht hz hn (by omega) (by rw [beq_iff_eq]; omega) w
end Go.Proofs.YtkogafponpjdnaaGreatDoor.Gl
