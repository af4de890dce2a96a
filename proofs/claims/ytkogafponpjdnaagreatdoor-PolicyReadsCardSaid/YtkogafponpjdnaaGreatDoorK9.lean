/- The document's actionOf. -/
import Derived.Test.YtkogafponpjdnaaGreatDoorK8
import Derived.Test.YtkogafponpjdnaaGreatDoorK7
import Derived.BigQuiet
import Derived.Deep.MidRow
import Derived.Test.YtkogafponpjdnaaGreatDoorK3
import Derived.Test.YtkogafponpjdnaaGreatDoorK6
import Derived.Deep.RegionLaw
namespace Go.Proofs.YtkogafponpjdnaaGreatDoor
open Go.RowKit Go.Sort

def docActV (o : Option (ACT × Nat)) : Value := match o with
  | some (a, n) => .tuple #[actV a, .int .i64 n]
  | none => .tuple #[actV ⟨0, 0⟩, .int .i64 0]

theorem docAct_cons (w : W8) (r : List W8) : docAct (w :: r) = if w = wAllow then some (⟨1, 0⟩, 1) else if w = wKill then some (⟨3, 0⟩, 1) else if w = wDeny then docDeny r else none := rfl

set_option maxHeartbeats 2000000 in
set_option maxRecDepth 100000 in
theorem dact_any (ws : List W8) (hsm : ∀ x ∈ ws, x.length ≤ 9000) (oa : Option Addr) (cap : Nat) (w : World) (hS : IsStrs oa ws w) (hl : ws.length ≤ 9001) :
    Calls Tryz.prog 37 #[.slice oa ws.length cap] w fun e w' => e = .returned (docActV (docAct ws)) ∧ Below w.heap.size w w' := by
  have hres : (w.alloc (.cells #[.int .i64 0, .int .i64 0] 24)).heap[w.heap.size]? = some (.cells #[.int .i64 0, .int .i64 0] 24 (0, 0)) := heap_alloc_new _ _
  match ws, hsm, hS, hl with
  | [], _, _, _ =>
    have HV := hide (show docActV (docAct []) = .tuple #[.agg #[.int .i64 0, .int .i64 0], .int .i64 0] from rfl)
    simp only [List.length_nil]
    go_enter Tryz.func37, Tryz.ntmps37
    go_wp2_with (refine wpList_store_row rfl 24 _ _ rfl w.heap.size #[.int .i64 0, .int .i64 0] rfl rfl 24 _ hres size_action rfl (one2 _ _) ?_)
    refine bodyPost_ret (v := .tuple #[.agg #[.int .i64 0, .int .i64 0], .int .i64 0]) (results_act rfl _ _ w.heap.size #[.int .i64 0, .int .i64 0] _ rfl rfl rfl (setRow_heap _ _ _ _ _ _ hres)) rfl ⟨?_, below_setRow (box_below _ _) (Nat.le_refl _) _⟩
    rw [HV.out]
  | x :: r, hsm, hS, hl =>
    obtain ⟨b, off, rfl, hbw, hc⟩ := hS.lie (by simp)
    obtain ⟨n, hn⟩ : ∃ n, n = (x :: r).length := ⟨_, rfl⟩
    have k0 := hc 0 x rfl
    rw [Nat.add_zero] at k0
    have HC := hide hc
    have hn0 : 0 < n := by rw [hn]; simp
    have hnl : n ≤ 9001 := by omega
    have HN := hide hn
    rw [← hn]
    clear hn hc hS hl
    by_cases h1 : x = wAllow
    · have HV := hide (show docActV (docAct (x :: r)) = .tuple #[.agg #[.int .i64 1, .int .i64 0], .int .i64 1] by rw [docAct_cons, if_pos h1]; rfl)
      rw [h1] at k0
      unfold bs wAllow at k0
      clear h1
      go_enter Tryz.func37, Tryz.ntmps37
      go_wp2_with (refine wpList_store_row rfl 24 _ _ rfl w.heap.size #[.int .i64 1, .int .i64 0] rfl rfl 24 _ hres size_action rfl (one2 _ _) ?_)
      refine bodyPost_ret (v := .tuple #[.agg #[.int .i64 1, .int .i64 0], .int .i64 1]) (results_act rfl _ _ w.heap.size #[.int .i64 1, .int .i64 0] _ rfl rfl rfl (setRow_heap _ _ _ _ _ _ hres)) rfl ⟨?_, below_setRow (box_below _ _) (Nat.le_refl _) _⟩
      rw [HV.out]
    have n1 := h1
    clear h1
    by_cases h1 : x = wKill
    · have HV := hide (show docActV (docAct (x :: r)) = .tuple #[.agg #[.int .i64 3, .int .i64 0], .int .i64 1] by rw [docAct_cons, if_neg n1, if_pos h1]; rfl)
      rw [h1] at k0
      unfold bs wKill at k0
      clear h1 n1
      go_enter Tryz.func37, Tryz.ntmps37
      go_wp2_with (refine wpList_store_row rfl 24 _ _ rfl w.heap.size #[.int .i64 3, .int .i64 0] rfl rfl 24 _ hres size_action rfl (one2 _ _) ?_)
      refine bodyPost_ret (v := .tuple #[.agg #[.int .i64 3, .int .i64 0], .int .i64 1]) (results_act rfl _ _ w.heap.size #[.int .i64 3, .int .i64 0] _ rfl rfl rfl (setRow_heap _ _ _ _ _ _ hres)) rfl ⟨?_, below_setRow (box_below _ _) (Nat.le_refl _) _⟩
      rw [HV.out]
    have n2 := h1
    clear h1
    by_cases h1 : x = wDeny
    · have HV0 := hide (show docAct (x :: r) = docDeny r by rw [docAct_cons, if_neg n1, if_neg n2, if_pos h1])
      rw [h1] at k0
      unfold bs wDeny at k0
      clear h1 n1 n2
      match r, hsm, HC, HN, HV0 with
      | [], _, _, HN, HV0 =>
        have HV := hide (show docActV (docAct [x]) = .tuple #[.agg #[.int .i64 0, .int .i64 0], .int .i64 0] by rw [HV0.out]; rfl)
        obtain rfl : n = 1 := HN.out
        go_enter Tryz.func37, Tryz.ntmps37
        go_wp2_with (refine wpList_store_row rfl 24 _ _ rfl w.heap.size #[.int .i64 0, .int .i64 0] rfl rfl 24 _ hres size_action rfl (one2 _ _) ?_)
        refine bodyPost_ret (v := .tuple #[.agg #[.int .i64 0, .int .i64 0], .int .i64 0]) (results_act rfl _ _ w.heap.size #[.int .i64 0, .int .i64 0] _ rfl rfl rfl (setRow_heap _ _ _ _ _ _ hres)) rfl ⟨?_, below_setRow (box_below _ _) (Nat.le_refl _) _⟩
        rw [HV.out]
      | y :: t, hsm, HC, HN, HV0 =>
        have k1 := HC.out 1 y rfl
        have hn1 : 1 < n := by rw [HN.out]; simp
        have hy := hsm y (by simp)
        have HF := fun X => figures_any (bs y) (by rw [bs_size]; omega) X
        rw [bs_data] at HF
        unfold figV at HF
        obtain ⟨q, hq⟩ : ∃ q, q = bs y := ⟨_, rfl⟩
        rw [← hq] at HF k1
        have HV1 := hide (show docAct (x :: y :: t) = if figOk y = true ∧ figN y < 1000 then some (⟨2, figN y⟩, 2) else none by rw [HV0.out]; rfl)
        obtain ⟨u, hu⟩ : ∃ u, u = figN y := ⟨_, rfl⟩
        obtain ⟨ok, hok⟩ : ∃ o, o = figOk y := ⟨_, rfl⟩
        rw [← hu, ← hok] at HV1 HF
        clear hu hok hq HV0 hsm HC HN hy
        by_cases hg : ok = true ∧ u < 1000
        · have HV := hide (show docActV (docAct (x :: y :: t)) = .tuple #[.agg #[.int .i64 2, .int .i64 u], .int .i64 2] by rw [HV1.out, if_pos hg]; rfl)
          obtain ⟨rfl, hu1⟩ := hg
          have hwr : IntKind.i64.wrap (u : Int) = u := by rw [IntKind.wrap_i64]; omega
          go_enter Tryz.func37, Tryz.ntmps37
          go_wp2_with (first
            | (go_at_call 61; refine (HF _).mono ?_; rintro e X ⟨rfl, hX⟩; have hXr := (hX.block w.heap.size (by simp)).trans hres; have HX := hide hX; clear hX)
            | (refine wpList_store_row rfl 24 _ _ rfl w.heap.size #[.int .i64 2, .int .i64 u] rfl rfl 24 _ hXr size_action rfl (one2 _ _) ?_))
          refine bodyPost_ret (v := .tuple #[.agg #[.int .i64 2, .int .i64 u], .int .i64 2]) (results_act rfl _ _ w.heap.size #[.int .i64 2, .int .i64 u] _ rfl rfl rfl (setRow_heap _ _ _ _ _ _ hXr)) rfl ⟨?_, below_setRow (below_next (box_below _ _) HX.out) (Nat.le_refl _) _⟩
          rw [HV.out]
        · have HV := hide (show docActV (docAct (x :: y :: t)) = .tuple #[.agg #[.int .i64 0, .int .i64 0], .int .i64 0] by rw [HV1.out, if_neg hg]; rfl)
          cases ok with
          | false =>
            clear hg HV1
            go_enter Tryz.func37, Tryz.ntmps37
            go_wp2_with (first
              | (go_at_call 61; refine (HF _).mono ?_; rintro e X ⟨rfl, hX⟩; have hXr := (hX.block w.heap.size (by simp)).trans hres; have HX := hide hX; clear hX)
              | (refine wpList_store_row rfl 24 _ _ rfl w.heap.size #[.int .i64 0, .int .i64 0] rfl rfl 24 _ hXr size_action rfl (one2 _ _) ?_))
            refine bodyPost_ret (v := .tuple #[.agg #[.int .i64 0, .int .i64 0], .int .i64 0]) (results_act rfl _ _ w.heap.size #[.int .i64 0, .int .i64 0] _ rfl rfl rfl (setRow_heap _ _ _ _ _ _ hXr)) rfl ⟨?_, below_setRow (below_next (box_below _ _) HX.out) (Nat.le_refl _) _⟩
            rw [HV.out]
          | true =>
            have hu2 : ¬ u < 1000 := fun h => hg ⟨rfl, h⟩
            clear hg HV1
            go_enter Tryz.func37, Tryz.ntmps37
            go_wp2_with (first
              | (go_at_call 61; refine (HF _).mono ?_; rintro e X ⟨rfl, hX⟩; have hXr := (hX.block w.heap.size (by simp)).trans hres; have HX := hide hX; clear hX)
              | (refine wpList_store_row rfl 24 _ _ rfl w.heap.size #[.int .i64 0, .int .i64 0] rfl rfl 24 _ hXr size_action rfl (one2 _ _) ?_))
            refine bodyPost_ret (v := .tuple #[.agg #[.int .i64 0, .int .i64 0], .int .i64 0]) (results_act rfl _ _ w.heap.size #[.int .i64 0, .int .i64 0] _ rfl rfl rfl (setRow_heap _ _ _ _ _ _ hXr)) rfl ⟨?_, below_setRow (below_next (box_below _ _) HX.out) (Nat.le_refl _) _⟩
            rw [HV.out]
    · have HV := hide (show docActV (docAct (x :: r)) = .tuple #[.agg #[.int .i64 0, .int .i64 0], .int .i64 0] by rw [docAct_cons, if_neg n1, if_neg n2, if_neg h1]; rfl)
      have b1 := beq_no n1
      have b2 := beq_no n2
      have b3 := beq_no h1
      obtain ⟨q, hq⟩ : ∃ q, q = bs x := ⟨_, rfl⟩
      have hqx : q.toList = x := by rw [hq, bs_toList]
      rw [← hqx] at b1 b2 b3
      rw [← hq] at k0
      unfold wAllow at b1
      unfold wKill at b2
      unfold wDeny at b3
      clear hq hqx n1 n2 h1
      go_enter Tryz.func37, Tryz.ntmps37
      go_wp2_with (refine wpList_store_row rfl 24 _ _ rfl w.heap.size #[.int .i64 0, .int .i64 0] rfl rfl 24 _ hres size_action rfl (one2 _ _) ?_)
      all_goals
        refine bodyPost_ret (v := .tuple #[.agg #[.int .i64 0, .int .i64 0], .int .i64 0]) (results_act rfl _ _ w.heap.size #[.int .i64 0, .int .i64 0] _ rfl rfl rfl (setRow_heap _ _ _ _ _ _ hres)) rfl ⟨?_, below_setRow (box_below _ _) (Nat.le_refl _) _⟩
        rw [HV.out]
end Go.Proofs.YtkogafponpjdnaaGreatDoor

/- The document's condOf: the laws, and where there is none by the first word. -/
namespace Go.Proofs.YtkogafponpjdnaaGreatDoor
open Go.RowKit Go.Sort

def docCondV (o : Option (CD × Nat)) : Value := match o with
  | some (c, n) => .tuple #[.agg (condC c), .int .i64 n]
  | none => .tuple #[.agg (condC zeroCD), .int .i64 0]
theorem results_cnd {fn : Func} {p u : Tmp} (h : fn.results = #[.cell p 69, .tmp u]) (tmps : Array Value) (w : World) (g : Nat) (cs : Array Value) (v : Value) (hs : cs.size = 9)
    (hp : tmps.getD p undef = .pointer (some ⟨g, 0, none⟩)) (hv : tmps.getD u undef = v) (hg : w.heap[g]? = some (.cells cs 69 (0, 0))) :
    (results fn tmps).run Tryz.prog w = .ok (.tuple #[.agg cs, v]) w := by
  rw [results_cell_tmp h, hp, hv]
  have hl := run_loadVar_row (P := Tryz.prog) w g 69 69 cs (0, 0) _ hg Tryz.underlying69 rfl (by rw [hs]; exact size_cond)
  simp [asAddr, hl]
/-- The world in the midst of condOf: the result's row, the cond's own. -/
structure DX (w : World) (r6 : Nat) (c : CD) (X : World) : Prop where
  below : Below w.heap.size w X
  res : X.heap[w.heap.size]? = some (.cells (condC zeroCD) 69 (0, 0))
  row : X.heap[r6]? = some (.cells (condC c) 69 (0, 0))
  le : w.heap.size < r6
theorem DX.on {w : World} {r6 : Nat} {c : CD} {X Y : World} (h : DX w r6 c X) (hb : Below X.heap.size X Y) : DX w r6 c Y :=
  ⟨h.below.trans (hb.mono h.below.size), (hb.block _ (Array.getElem?_eq_some_iff.1 h.res).1).trans h.res, (hb.block _ (Array.getElem?_eq_some_iff.1 h.row).1).trans h.row, h.le⟩
theorem DX.cell {w : World} {r6 : Nat} {c : CD} {X : World} (h : DX w r6 c X) (j : Nat) : X.cell? ⟨r6, j, none⟩ = (condC c)[j]? := cell_of_row _ _ j _ _ _ h.row
theorem DX.fro {w : World} {r6 : Nat} {c : CD} {X : World} (h : DX w r6 c X) (j : Nat) : X.frozen? ⟨r6, j, none⟩ = false := frozen_of_row _ _ j _ _ h.row
theorem DX.set {w : World} {r6 : Nat} {c : CD} {X : World} (h : DX w r6 c X) (j : Nat) (v : Value) (c' : CD) (hc : (condC c).setIfInBounds j v = condC c') : DX w r6 c' (X.setCell ⟨r6, j, none⟩ v) := by
  have hl := h.le
  rw [setCell_eq_setRow _ _ j _ _ _ _ h.row, hc]
  have hb : ∀ k, k ≠ r6 → (X.setRow r6 (condC c')).heap[k]? = X.heap[k]? := fun k hk => row_heap X r6 k _ hk
  exact ⟨h.below.trans ⟨rfl, rfl, rfl, by rw [row_size]; exact Nat.le_refl _, fun k hk => hb k (by omega)⟩, (hb _ (by omega)).trans h.res, setRow_heap _ _ _ _ _ _ h.row, h.le⟩
theorem DX.start {w X : World} (c : CD) (hb : Below w.heap.size w X) (hr : X.heap[w.heap.size]? = some (.cells (condC zeroCD) 69 (0, 0))) : DX w X.heap.size c (X.alloc (.cells (condC c) 69)) :=
  ⟨below_next hb (box_below _ _), ((box_below X _).block _ (Array.getElem?_eq_some_iff.1 hr).1).trans hr, heap_alloc_new _ _, (Array.getElem?_eq_some_iff.1 hr).1⟩

set_option maxRecDepth 100000 in
/-- Fewer than three words. -/
theorem dcond_few (ws : List W8) (oa : Option Addr) (cap : Nat) (w : World) (hl : ws.length < 3) :
    Calls Tryz.prog 62 #[.slice oa ws.length cap] w fun e w' => e = .returned (docCondV (docCond ws)) ∧ Below w.heap.size w w' := by
  have HV := hide (show docCondV (docCond ws) = .tuple #[.agg (condC zeroCD), .int .i64 0] by
    match ws, hl with
    | [], _ => rfl
    | [_], _ => rfl
    | [_, _], _ => rfl)
  have hres : (w.alloc (.cells #[.int .i64 0, .int .i64 0, .int .u64 0, .int .u64 0, .string ⟨#[]⟩, .int .u32 0, .int .i64 0, .int .i64 0, .int .i64 0] 69)).heap[w.heap.size]? = some (.cells (condC zeroCD) 69 (0, 0)) := heap_alloc_new _ _
  obtain ⟨n, hn⟩ : ∃ n, n = ws.length := ⟨_, rfl⟩
  rw [← hn] at hl ⊢
  clear hn
  go_enter Tryz.func62, Tryz.ntmps62
  go_wp2_with (refine wpList_store_row rfl 69 _ _ rfl w.heap.size (condC zeroCD) rfl rfl 69 _ hres size_cond rfl (condC_one _) ?_)
  refine bodyPost_ret (v := .tuple #[.agg (condC zeroCD), .int .i64 0]) (results_cnd rfl _ _ w.heap.size (condC zeroCD) _ rfl rfl rfl (setRow_heap _ _ _ _ _ _ hres)) rfl ⟨?_, below_setRow (box_below _ _) (Nat.le_refl _) _⟩
  rw [HV.out]

theorem docCond_cons (a s x : W8) (r : List W8) : docCond (a :: s :: x :: r) =
    if figOk a = true ∧ figN a ≤ 3 then
      if s = [38] then docMask a x r
      else if s = [126] then (if 2 ≤ x.length ∧ x.head? = some 34 ∧ x.getLast? = some 34 then some (⟨figN a, 8, 0, 0, ⟨x.tail.dropLast.toArray⟩, noNet⟩, 3) else none)
      else if s = [105, 110] then (match parseR x with
        | some (ip, b, lo, hi) => some (⟨figN a, 9, 0, 0, ByteArray.empty, ⟨ip, b, lo, hi⟩⟩, 3)
        | none => none)
      else if findOp6 s ≠ 0 ∧ figOk x = true then some (⟨figN a, findOp6 s, figN x, 0, ByteArray.empty, noNet⟩, 3) else none
    else none := rfl

set_option maxHeartbeats 2000000 in
set_option maxRecDepth 100000 in
/-- The first word is no argument's number. -/
theorem dcond_arg (a s x : W8) (r : List W8) (hsm : ∀ y ∈ a :: s :: x :: r, y.length ≤ 9000) (oa : Option Addr) (cap : Nat) (w : World) (hS : IsStrs oa (a :: s :: x :: r) w) (hl : (a :: s :: x :: r).length ≤ 9001) (hno : ¬ (figOk a = true ∧ figN a ≤ 3)) :
    Calls Tryz.prog 62 #[.slice oa (a :: s :: x :: r).length cap] w fun e w' => e = .returned (docCondV (docCond (a :: s :: x :: r))) ∧ Below w.heap.size w w' := by
  have HV := hide (show docCondV (docCond (a :: s :: x :: r)) = .tuple #[.agg (condC zeroCD), .int .i64 0] by rw [docCond_cons, if_neg hno]; rfl)
  obtain ⟨b, off, rfl, hbw, hc⟩ := hS.lie (by simp)
  obtain ⟨n, hn⟩ : ∃ n, n = (a :: s :: x :: r).length := ⟨_, rfl⟩
  have k0 := hc 0 a rfl
  rw [Nat.add_zero] at k0
  have k1 := hc 1 s rfl
  have k2 := hc 2 x rfl
  have HC := hide hc
  have hn3 : 3 ≤ n := by rw [hn]; simp
  have hnl : n ≤ 9001 := by omega
  have HN := hide hn
  rw [← hn]
  clear hn hc hS hl
  obtain ⟨V0, hV0, hV0b, hV0r, hV0s⟩ : ∃ V, V = w.alloc (.cells #[.int .i64 0, .int .i64 0, .int .u64 0, .int .u64 0, .string ⟨#[]⟩, .int .u32 0, .int .i64 0, .int .i64 0, .int .i64 0] 69) ∧ Below w.heap.size w V ∧ V.heap[w.heap.size]? = some (.cells (condC zeroCD) 69 (0, 0)) ∧ w.heap.size < V.heap.size := ⟨_, rfl, box_below _ _, heap_alloc_new _ _, by rw [World.size_alloc]; omega⟩
  have HFA := fun X => figures_any (bs a) (by rw [bs_size]; have := hsm a (by simp); omega) X
  rw [bs_data] at HFA
  unfold figV at HFA
  obtain ⟨qa, hqa⟩ : ∃ q, q = bs a := ⟨_, rfl⟩
  rw [← hqa] at HFA k0
  obtain ⟨A, hA⟩ : ∃ u, u = figN a := ⟨_, rfl⟩
  obtain ⟨okA, hok⟩ : ∃ o, o = figOk a := ⟨_, rfl⟩
  rw [← hA, ← hok] at HFA
  have HAA := hide (And.intro hA hok)
  clear hqa hA hok
  have HNO := hide (show ¬ (okA = true ∧ A ≤ 3) by rw [HAA.out.1, HAA.out.2]; exact hno)
  clear hno HAA k1 k2
  cases okA with
  | false =>
    go_enter Tryz.func62, Tryz.ntmps62
    go_wp2_with (first
      | (go_at_call 61; rw [← hV0]; clear hV0; refine (HFA _).mono ?_; rintro e X ⟨rfl, hX⟩; have hres := (hX.block w.heap.size hV0s).trans hV0r)
      | (refine wpList_store_row rfl 69 _ _ rfl w.heap.size (condC zeroCD) rfl rfl 69 _ hres size_cond rfl (condC_one _) ?_))
    refine bodyPost_ret (v := .tuple #[.agg (condC zeroCD), .int .i64 0]) (results_cnd rfl _ _ w.heap.size (condC zeroCD) _ rfl rfl rfl (setRow_heap _ _ _ _ _ _ hres)) rfl ⟨?_, below_setRow (below_next hV0b hX) (Nat.le_refl _) _⟩
    rw [HV.out]
  | true =>
    have h3 : (3 : Int) < A := by have := HNO.out; simp at this; omega
    go_enter Tryz.func62, Tryz.ntmps62
    go_wp2_with (first
      | (go_at_call 61; rw [← hV0]; clear hV0; refine (HFA _).mono ?_; rintro e X ⟨rfl, hX⟩; have hres := (hX.block w.heap.size hV0s).trans hV0r)
      | (refine wpList_store_row rfl 69 _ _ rfl w.heap.size (condC zeroCD) rfl rfl 69 _ hres size_cond rfl (condC_one _) ?_))
    refine bodyPost_ret (v := .tuple #[.agg (condC zeroCD), .int .i64 0]) (results_cnd rfl _ _ w.heap.size (condC zeroCD) _ rfl rfl rfl (setRow_heap _ _ _ _ _ _ hres)) rfl ⟨?_, below_setRow (below_next hV0b hX) (Nat.le_refl _) _⟩
    rw [HV.out]
end Go.Proofs.YtkogafponpjdnaaGreatDoor

/- The document's condOf, arm by arm. -/
namespace Go.Proofs.YtkogafponpjdnaaGreatDoor
open Go.RowKit Go.Sort

set_option maxHeartbeats 4000000 in
set_option maxRecDepth 100000 in
/-- A mask. -/
theorem dcond_mask (a x : W8) (r : List W8) (hsm : ∀ y ∈ a :: [38] :: x :: r, y.length ≤ 9000) (oa : Option Addr) (cap : Nat) (w : World) (hS : IsStrs oa (a :: [38] :: x :: r) w) (hl : (a :: [38] :: x :: r).length ≤ 9001) (hA : figOk a = true ∧ figN a ≤ 3) :
    Calls Tryz.prog 62 #[.slice oa (a :: [38] :: x :: r).length cap] w fun e w' => e = .returned (docCondV (docCond (a :: [38] :: x :: r))) ∧ Below w.heap.size w w' := by
  have HV0 := hide (show docCond (a :: [38] :: x :: r) = docMask a x r by rw [docCond_cons, if_pos hA, if_pos rfl])
  obtain ⟨b, off, rfl, hbw, hc⟩ := hS.lie (by simp)
  obtain ⟨n, hn⟩ : ∃ n, n = (a :: [38] :: x :: r).length := ⟨_, rfl⟩
  have k0 := hc 0 a rfl
  rw [Nat.add_zero] at k0
  have k1 := hc 1 [38] rfl
  have k2 := hc 2 x rfl
  have HC := hide hc
  have hn3 : 3 ≤ n := by rw [hn]; simp
  have hnl : n ≤ 9001 := by omega
  have HN := hide hn
  rw [← hn]
  clear hn hc hS hl
  obtain ⟨V0, hV0, hV0b, hV0r, hV0s⟩ : ∃ V, V = w.alloc (.cells #[.int .i64 0, .int .i64 0, .int .u64 0, .int .u64 0, .string ⟨#[]⟩, .int .u32 0, .int .i64 0, .int .i64 0, .int .i64 0] 69) ∧ Below w.heap.size w V ∧ V.heap[w.heap.size]? = some (.cells (condC zeroCD) 69 (0, 0)) ∧ w.heap.size < V.heap.size := ⟨_, rfl, box_below _ _, heap_alloc_new _ _, by rw [World.size_alloc]; omega⟩
  have HFA := fun X => figures_any (bs a) (by rw [bs_size]; have := hsm a (by simp); omega) X
  rw [bs_data] at HFA
  unfold figV at HFA
  obtain ⟨qa, hqa⟩ : ∃ q, q = bs a := ⟨_, rfl⟩
  rw [← hqa] at HFA k0
  obtain ⟨A, hA⟩ : ∃ u, u = figN a := ⟨_, rfl⟩
  obtain ⟨okA, hok⟩ : ∃ o, o = figOk a := ⟨_, rfl⟩
  rw [← hA, ← hok] at HFA
  have HAA := hide (And.intro hA hok)
  clear hqa hA hok
  have hA3 : A ≤ 3 := by rw [HAA.out.1]; exact hA.2
  obtain rfl : okA = true := by rw [HAA.out.2]; exact hA.1
  have hwr : IntKind.i64.wrap (A : Int) = A := by rw [IntKind.wrap_i64]; omega
  unfold bs at k1
  by_cases h5 : n < 5
  · have HV := hide (show docCondV (docCond (a :: [38] :: x :: r)) = .tuple #[.agg (condC zeroCD), .int .i64 0] by
      rw [HV0.out]
      match r, HN with
      | [], _ => rfl
      | [_], _ => rfl
      | _ :: _ :: _, HN => have := HN.out; simp at this; omega)
    go_enter Tryz.func62, Tryz.ntmps62
    go_wp2_with fail
    rw [← hV0]
    clear hV0
    refine (HFA _).mono ?_
    rintro e X1 ⟨rfl, hX1⟩
    have HB := hide (below_next hV0b hX1)
    have HR := hide ((hX1.block w.heap.size hV0s).trans hV0r)
    clear hX1 HFA k0
    have l0 : w.heap.size < X1.heap.size := (Array.getElem?_eq_some_iff.1 HR.out).1
    have lb : b < X1.heap.size := Nat.lt_of_lt_of_le hbw HB.out.size
    have HS := hide (DX.start (X := X1) ⟨A, 0, 0, 0, ⟨#[]⟩, noNet⟩ HB.out HR.out)
    have j1 := keep_cell HB.out k1
    have hres := HS.out.res
    go_wp2_with (refine wpList_store_row rfl 69 _ _ rfl w.heap.size (condC zeroCD) rfl rfl 69 _ hres size_cond rfl (condC_one _) ?_)
    refine bodyPost_ret (v := .tuple #[.agg (condC zeroCD), .int .i64 0]) (results_cnd rfl _ _ w.heap.size (condC zeroCD) _ rfl rfl rfl (setRow_heap _ _ _ _ _ _ hres)) rfl ⟨?_, below_setRow HS.out.below (Nat.le_refl _) _⟩
    rw [HV.out]
  obtain ⟨y, z, t, rfl⟩ : ∃ y z t, r = y :: z :: t := by
    match r, HN with
    | [], HN => have := HN.out; simp at this; omega
    | [_], HN => have := HN.out; simp at this; omega
    | y :: z :: t, _ => exact ⟨y, z, t, rfl⟩
  have k3 := HC.out 3 y rfl
  have k4 := HC.out 4 z rfl
  have HV1 := hide (show docCond (a :: [38] :: x :: y :: z :: t) = if y = [61, 61] ∧ figOk x = true ∧ figOk z = true then some (⟨A, 7, figN z, figN x, ⟨#[]⟩, noNet⟩, 5) else none by rw [HV0.out, HAA.out.1]; rfl)
  clear HV0
  by_cases hy : y = [61, 61]
  case neg =>
    have HV := hide (show docCondV (docCond (a :: [38] :: x :: y :: z :: t)) = .tuple #[.agg (condC zeroCD), .int .i64 0] by rw [HV1.out, if_neg (fun h => hy h.1)]; rfl)
    have b3 := beq_no hy
    obtain ⟨q, hq⟩ : ∃ q, q = bs y := ⟨_, rfl⟩
    have hqy : q.toList = y := by rw [hq, bs_toList]
    rw [← hqy] at b3
    rw [← hq] at k3
    clear hq hqy hy HV1
    go_enter Tryz.func62, Tryz.ntmps62
    go_wp2_with fail
    rw [← hV0]
    clear hV0
    refine (HFA _).mono ?_
    rintro e X1 ⟨rfl, hX1⟩
    have HB := hide (below_next hV0b hX1)
    have HR := hide ((hX1.block w.heap.size hV0s).trans hV0r)
    clear hX1 HFA k0
    have l0 : w.heap.size < X1.heap.size := (Array.getElem?_eq_some_iff.1 HR.out).1
    have lb : b < X1.heap.size := Nat.lt_of_lt_of_le hbw HB.out.size
    have HS := hide (DX.start (X := X1) ⟨A, 0, 0, 0, ⟨#[]⟩, noNet⟩ HB.out HR.out)
    have j1 := keep_cell HB.out k1
    have j3 := keep_cell HB.out k3
    have hres := HS.out.res
    go_wp2_with (refine wpList_store_row rfl 69 _ _ rfl w.heap.size (condC zeroCD) rfl rfl 69 _ hres size_cond rfl (condC_one _) ?_)
    refine bodyPost_ret (v := .tuple #[.agg (condC zeroCD), .int .i64 0]) (results_cnd rfl _ _ w.heap.size (condC zeroCD) _ rfl rfl rfl (setRow_heap _ _ _ _ _ _ hres)) rfl ⟨?_, below_setRow HS.out.below (Nat.le_refl _) _⟩
    rw [HV.out]
  subst hy
  unfold bs at k3
  have HFX := fun X => figures_any (bs x) (by rw [bs_size]; have := hsm x (by simp); omega) X
  have HFZ := fun X => figures_any (bs z) (by rw [bs_size]; have := hsm z (by simp); omega) X
  rw [bs_data] at HFX HFZ
  unfold figV at HFX HFZ
  obtain ⟨qx, hqx⟩ : ∃ q, q = bs x := ⟨_, rfl⟩
  obtain ⟨qz, hqz⟩ : ∃ q, q = bs z := ⟨_, rfl⟩
  rw [← hqx] at HFX k2
  rw [← hqz] at HFZ k4
  obtain ⟨M, hM⟩ : ∃ u, u = figN x := ⟨_, rfl⟩
  obtain ⟨ok1, ho1⟩ : ∃ o, o = figOk x := ⟨_, rfl⟩
  obtain ⟨Z, hZ⟩ : ∃ u, u = figN z := ⟨_, rfl⟩
  obtain ⟨ok2, ho2⟩ : ∃ o, o = figOk z := ⟨_, rfl⟩
  rw [← hM, ← ho1] at HFX
  rw [← hZ, ← ho2] at HFZ
  rw [← hM, ← ho1, ← hZ, ← ho2] at HV1
  clear hqx hqz hM ho1 hZ ho2
  have j4 := fun X (h : Below w.heap.size w X) => keep_cell h k4
  go_enter Tryz.func62, Tryz.ntmps62
  go_wp2_with fail
  rw [← hV0]
  clear hV0
  refine (HFA _).mono ?_
  rintro e X1 ⟨rfl, hX1⟩
  have HB := hide (below_next hV0b hX1)
  have HR := hide ((hX1.block w.heap.size hV0s).trans hV0r)
  clear hX1 HFA k0
  have l0 : w.heap.size < X1.heap.size := (Array.getElem?_eq_some_iff.1 HR.out).1
  have lb : b < X1.heap.size := Nat.lt_of_lt_of_le hbw HB.out.size
  have HS := hide (DX.start (X := X1) ⟨A, 0, 0, 0, ⟨#[]⟩, noNet⟩ HB.out HR.out)
  have j1 := keep_cell HB.out k1
  have j2 := keep_cell HB.out k2
  have j3 := keep_cell HB.out k3
  go_wp2_with fail
  refine calls_forget (W0 := X1.alloc (.cells #[.int .i64 A, .int .i64 0, .int .u64 0, .int .u64 0, .string ⟨#[]⟩, .int .u32 0, .int .i64 0, .int .i64 0, .int .i64 0] 69)) (DX w X1.heap.size ⟨A, 0, 0, 0, ⟨#[]⟩, noNet⟩) HS.out ?_
  clear HS j1 j2 j3 HB HR
  obtain ⟨r6, hr6⟩ : ∃ r, r = X1.heap.size := ⟨_, rfl⟩
  rw [← hr6]
  clear hr6 l0 lb
  intro Y hY
  refine (HFX _).mono ?_
  rintro e Y1 ⟨rfl, hY1⟩
  have HC1 := hide (hY.on hY1)
  clear hY hY1 HFX
  have i4 := j4 _ HC1.out.below
  go_wp2_with fail
  refine (HFZ _).mono ?_
  rintro e Y2 ⟨rfl, hY2⟩
  have HC2 := hide (HC1.out.on hY2)
  clear hY2 HC1 HFZ i4 j4 k1 k2 k3 k4
  have hres := HC2.out.res
  by_cases hok : ok1 = true ∧ ok2 = true
  case neg =>
    have HV := hide (show docCondV (docCond (a :: [38] :: x :: [61, 61] :: z :: t)) = .tuple #[.agg (condC zeroCD), .int .i64 0] by rw [HV1.out, if_neg (fun h => hok h.2)]; rfl)
    clear HV1
    cases ok1 with
    | false =>
      clear hok
      go_wp2_with (refine wpList_store_row rfl 69 _ _ rfl w.heap.size (condC zeroCD) rfl rfl 69 _ hres size_cond rfl (condC_one _) ?_)
      refine bodyPost_ret (v := .tuple #[.agg (condC zeroCD), .int .i64 0]) (results_cnd rfl _ _ w.heap.size (condC zeroCD) _ rfl rfl rfl (setRow_heap _ _ _ _ _ _ hres)) rfl ⟨?_, below_setRow HC2.out.below (Nat.le_refl _) _⟩
      rw [HV.out]
    | true =>
      obtain rfl : ok2 = false := by
        cases ok2 with
        | false => rfl
        | true => exact absurd ⟨rfl, rfl⟩ hok
      clear hok
      go_wp2_with (refine wpList_store_row rfl 69 _ _ rfl w.heap.size (condC zeroCD) rfl rfl 69 _ hres size_cond rfl (condC_one _) ?_)
      refine bodyPost_ret (v := .tuple #[.agg (condC zeroCD), .int .i64 0]) (results_cnd rfl _ _ w.heap.size (condC zeroCD) _ rfl rfl rfl (setRow_heap _ _ _ _ _ _ hres)) rfl ⟨?_, below_setRow HC2.out.below (Nat.le_refl _) _⟩
      rw [HV.out]
  obtain ⟨rfl, rfl⟩ := hok
  have HV := hide (show docCondV (docCond (a :: [38] :: x :: [61, 61] :: z :: t)) = .tuple #[.agg (condC ⟨A, 7, Z, M, ⟨#[]⟩, noNet⟩), .int .i64 5] by rw [HV1.out, if_pos (by simp)]; rfl)
  clear HV1
  have c0 := HC2.out.cell 0
  have c1 := HC2.out.cell 1
  have c2 := HC2.out.cell 2
  have c3 := HC2.out.cell 3
  have c4 := HC2.out.cell 4
  have c5 := HC2.out.cell 5
  have c6 := HC2.out.cell 6
  have c7 := HC2.out.cell 7
  have c8 := HC2.out.cell 8
  simp only [condC, noNet, List.getElem?_toArray, List.getElem?_cons_zero, List.getElem?_cons_succ] at c0 c1 c2 c3 c4 c5 c6 c7 c8
  have f1 := HC2.out.fro 1
  have f3 := HC2.out.fro 3
  have f2 := HC2.out.fro 2
  have HS2 := hide (((HC2.out.set 1 (.int .i64 7) ⟨A, 7, 0, 0, ⟨#[]⟩, noNet⟩ (by rfl)).set 3 (.int .u64 M) ⟨A, 7, 0, M, ⟨#[]⟩, noNet⟩ (by rfl)).set 2 (.int .u64 Z) ⟨A, 7, Z, M, ⟨#[]⟩, noNet⟩ (by rfl))
  have hres2 := HS2.out.res
  go_wp2_with (refine wpList_store_row rfl 69 _ _ rfl w.heap.size (condC ⟨A, 7, Z, M, ⟨#[]⟩, noNet⟩) rfl rfl 69 _ hres2 size_cond rfl (condC_one _) ?_)
  refine bodyPost_ret (v := .tuple #[.agg (condC ⟨A, 7, Z, M, ⟨#[]⟩, noNet⟩), .int .i64 5]) (results_cnd rfl _ _ w.heap.size (condC ⟨A, 7, Z, M, ⟨#[]⟩, noNet⟩) _ rfl rfl rfl (setRow_heap _ _ _ _ _ _ hres2)) rfl ⟨?_, below_setRow HS2.out.below (Nat.le_refl _) _⟩
  rw [HV.out]
end Go.Proofs.YtkogafponpjdnaaGreatDoor

/- The document's condOf: a pattern. -/
namespace Go.Proofs.YtkogafponpjdnaaGreatDoor
open Go.RowKit Go.Sort

theorem head_byte (x : W8) (h : 0 < x.length) : x.head? = some 34 ↔ byteAt (bs x) 0 = 34 := by
  unfold byteAt
  rw [bs_data]
  match x, h with
  | y :: r, _ =>
    simp only [List.head?_cons, Option.some.injEq, List.getD_cons_zero]
    exact ⟨fun h => by rw [h]; rfl, fun h => UInt8.toNat_inj.1 h⟩
theorem last_byte (x : W8) (h : 0 < x.length) : x.getLast? = some 34 ↔ byteAt (bs x) (x.length - 1) = 34 := by
  unfold byteAt
  rw [bs_data, List.getLast?_eq_getElem?, List.getD_eq_getElem?_getD, List.getElem?_eq_getElem (by omega), Option.getD_some, Option.some.injEq]
  exact ⟨fun h => by rw [h]; rfl, fun h => UInt8.toNat_inj.1 h⟩
theorem mid_bytes (x : W8) (m : Nat) (h : x.length = m + 2) : (bs x).extract 1 (m + 1) = ⟨x.tail.dropLast.toArray⟩ := by
  apply ByteArray.ext
  apply Array.toList_inj.1
  rw [Lib.extract_data, bs_data]
  simp only
  rw [List.dropLast_eq_take, List.length_tail, h, ← List.drop_one]
  rfl

set_option maxHeartbeats 4000000 in
set_option maxRecDepth 100000 in
/-- A pattern. -/
theorem dcond_like (a x : W8) (r : List W8) (hsm : ∀ y ∈ a :: [126] :: x :: r, y.length ≤ 9000) (oa : Option Addr) (cap : Nat) (w : World) (hS : IsStrs oa (a :: [126] :: x :: r) w) (hl : (a :: [126] :: x :: r).length ≤ 9001) (hA : figOk a = true ∧ figN a ≤ 3) :
    Calls Tryz.prog 62 #[.slice oa (a :: [126] :: x :: r).length cap] w fun e w' => e = .returned (docCondV (docCond (a :: [126] :: x :: r))) ∧ Below w.heap.size w w' := by
  have HV0 := hide (show docCond (a :: [126] :: x :: r) = if 2 ≤ x.length ∧ x.head? = some 34 ∧ x.getLast? = some 34 then some (⟨figN a, 8, 0, 0, ⟨x.tail.dropLast.toArray⟩, noNet⟩, 3) else none by rw [docCond_cons, if_pos hA, if_neg (by decide), if_pos rfl])
  have hx9 : x.length ≤ 9000 := hsm x (by simp)
  obtain ⟨b, off, rfl, hbw, hc⟩ := hS.lie (by simp)
  obtain ⟨n, hn⟩ : ∃ n, n = (a :: [126] :: x :: r).length := ⟨_, rfl⟩
  have k0 := hc 0 a rfl
  rw [Nat.add_zero] at k0
  have k1 := hc 1 [126] rfl
  have k2 := hc 2 x rfl
  have HC := hide hc
  have hn3 : 3 ≤ n := by rw [hn]; simp
  have hnl : n ≤ 9001 := by omega
  have HN := hide hn
  rw [← hn]
  clear hn hc hS hl
  obtain ⟨V0, hV0, hV0b, hV0r, hV0s⟩ : ∃ V, V = w.alloc (.cells #[.int .i64 0, .int .i64 0, .int .u64 0, .int .u64 0, .string ⟨#[]⟩, .int .u32 0, .int .i64 0, .int .i64 0, .int .i64 0] 69) ∧ Below w.heap.size w V ∧ V.heap[w.heap.size]? = some (.cells (condC zeroCD) 69 (0, 0)) ∧ w.heap.size < V.heap.size := ⟨_, rfl, box_below _ _, heap_alloc_new _ _, by rw [World.size_alloc]; omega⟩
  have HFA := fun X => figures_any (bs a) (by rw [bs_size]; have := hsm a (by simp); omega) X
  rw [bs_data] at HFA
  unfold figV at HFA
  obtain ⟨qa, hqa⟩ : ∃ q, q = bs a := ⟨_, rfl⟩
  rw [← hqa] at HFA k0
  obtain ⟨A, hA⟩ : ∃ u, u = figN a := ⟨_, rfl⟩
  obtain ⟨okA, hok⟩ : ∃ o, o = figOk a := ⟨_, rfl⟩
  rw [← hA, ← hok] at HFA
  have HAA := hide (And.intro hA hok)
  clear hqa hA hok
  have hA3 : A ≤ 3 := by rw [HAA.out.1]; exact hA.2
  obtain rfl : okA = true := by rw [HAA.out.2]; exact hA.1
  have hwr : IntKind.i64.wrap (A : Int) = A := by rw [IntKind.wrap_i64]; omega
  unfold bs at k1
  rw [← HAA.out.1] at HV0
  have HHB := hide (head_byte x)
  have HLB := hide (last_byte x)
  have HMB := hide (mid_bytes x)
  obtain ⟨q, hq⟩ : ∃ q, q = bs x := ⟨_, rfl⟩
  have hqs : q.size = x.length := by rw [hq, bs_size]
  rw [← hq] at k2 HHB HLB HMB
  clear hq
  by_cases h2 : x.length < 2
  · have HV := hide (show docCondV (docCond (a :: [126] :: x :: r)) = .tuple #[.agg (condC zeroCD), .int .i64 0] by rw [HV0.out, if_neg (fun h => by omega)]; rfl)
    have hq2 : q.size < 2 := by omega
    clear hqs h2 hx9
    go_enter Tryz.func62, Tryz.ntmps62
    go_wp2_with fail
    rw [← hV0]
    clear hV0
    refine (HFA _).mono ?_
    rintro e X1 ⟨rfl, hX1⟩
    have HB := hide (below_next hV0b hX1)
    have HR := hide ((hX1.block w.heap.size hV0s).trans hV0r)
    clear hX1 HFA k0
    have l0 : w.heap.size < X1.heap.size := (Array.getElem?_eq_some_iff.1 HR.out).1
    have lb : b < X1.heap.size := Nat.lt_of_lt_of_le hbw HB.out.size
    have HS := hide (DX.start (X := X1) ⟨A, 0, 0, 0, ⟨#[]⟩, noNet⟩ HB.out HR.out)
    have j1 := keep_cell HB.out k1
    have j2 := keep_cell HB.out k2
    have hres := HS.out.res
    go_wp2_with (refine wpList_store_row rfl 69 _ _ rfl w.heap.size (condC zeroCD) rfl rfl 69 _ hres size_cond rfl (condC_one _) ?_)
    refine bodyPost_ret (v := .tuple #[.agg (condC zeroCD), .int .i64 0]) (results_cnd rfl _ _ w.heap.size (condC zeroCD) _ rfl rfl rfl (setRow_heap _ _ _ _ _ _ hres)) rfl ⟨?_, below_setRow HS.out.below (Nat.le_refl _) _⟩
    rw [HV.out]
  obtain ⟨m, hm⟩ : ∃ m, x.length = m + 2 := ⟨x.length - 2, by omega⟩
  have hqm : q.size = m + 2 := by omega
  have z0 : 0 < q.size := by omega
  have z1 : m + 1 < q.size := by omega
  have e0 := byteAt_eq q 0 z0
  have e1 := byteAt_eq q (m + 1) z1
  have HH := hide (show x.head? = some 34 ↔ byteAt q 0 = 34 from HHB.out (by omega))
  have HL := hide (show x.getLast? = some 34 ↔ byteAt q (m + 1) = 34 by have := HLB.out (by omega); rwa [show x.length - 1 = m + 1 by omega] at this)
  have hm9 : m ≤ 9000 := by omega
  have HX2 := hide (show 2 ≤ x.length by omega)
  have hmb := HMB.out m hm
  have HMX := hide hmb
  clear hqs h2 hx9 HHB HLB HMB hm
  by_cases hb0 : byteAt q 0 = 34
  case neg =>
    have HV := hide (show docCondV (docCond (a :: [126] :: x :: r)) = .tuple #[.agg (condC zeroCD), .int .i64 0] by rw [HV0.out, if_neg (fun h => hb0 (HH.out.1 h.2.1))]; rfl)
    have b0 : ¬ (byteAt q 0 : Int) = 34 := by omega
    have b0b : (byteAt q 0 != 34) = true := by simpa using hb0
    clear hmb
    go_enter Tryz.func62, Tryz.ntmps62
    go_wp2_with fail
    rw [← hV0]
    clear hV0
    refine (HFA _).mono ?_
    rintro e X1 ⟨rfl, hX1⟩
    have HB := hide (below_next hV0b hX1)
    have HR := hide ((hX1.block w.heap.size hV0s).trans hV0r)
    clear hX1 HFA k0
    have l0 : w.heap.size < X1.heap.size := (Array.getElem?_eq_some_iff.1 HR.out).1
    have lb : b < X1.heap.size := Nat.lt_of_lt_of_le hbw HB.out.size
    have HS := hide (DX.start (X := X1) ⟨A, 0, 0, 0, ⟨#[]⟩, noNet⟩ HB.out HR.out)
    have j1 := keep_cell HB.out k1
    have j2 := keep_cell HB.out k2
    have hres := HS.out.res
    go_wp2_with (refine wpList_store_row rfl 69 _ _ rfl w.heap.size (condC zeroCD) rfl rfl 69 _ hres size_cond rfl (condC_one _) ?_)
    refine bodyPost_ret (v := .tuple #[.agg (condC zeroCD), .int .i64 0]) (results_cnd rfl _ _ w.heap.size (condC zeroCD) _ rfl rfl rfl (setRow_heap _ _ _ _ _ _ hres)) rfl ⟨?_, below_setRow HS.out.below (Nat.le_refl _) _⟩
    rw [HV.out]
  rw [hb0] at e0
  have hw1 : IntKind.i64.wrap ((m : Int) + 2 - 1) = (m : Int) + 1 := by rw [IntKind.wrap_i64]; omega
  have hw2 : ((m : Int) + 1).toNat = m + 1 := by omega
  have i7 : (m : Int) + 1 < (m : Int) + 2 := by omega
  have i8 : (0 : Int) ≤ (m : Int) + 1 := by omega
  by_cases hb1 : byteAt q (m + 1) = 34
  case neg =>
    have HV := hide (show docCondV (docCond (a :: [126] :: x :: r)) = .tuple #[.agg (condC zeroCD), .int .i64 0] by rw [HV0.out, if_neg (fun h => hb1 (HL.out.1 h.2.2))]; rfl)
    have b1 : ¬ (byteAt q (m + 1) : Int) = 34 := by omega
    have b1b : (byteAt q (m + 1) != 34) = true := by simpa using hb1
    have b1c : (((byteAt q (m + 1) : Nat) : Int) != 34) = true := by simpa using b1
    clear hmb
    go_enter Tryz.func62, Tryz.ntmps62
    go_wp2_with fail
    rw [← hV0]
    clear hV0
    refine (HFA _).mono ?_
    rintro e X1 ⟨rfl, hX1⟩
    have HB := hide (below_next hV0b hX1)
    have HR := hide ((hX1.block w.heap.size hV0s).trans hV0r)
    clear hX1 HFA k0
    have l0 : w.heap.size < X1.heap.size := (Array.getElem?_eq_some_iff.1 HR.out).1
    have lb : b < X1.heap.size := Nat.lt_of_lt_of_le hbw HB.out.size
    have HS := hide (DX.start (X := X1) ⟨A, 0, 0, 0, ⟨#[]⟩, noNet⟩ HB.out HR.out)
    have j1 := keep_cell HB.out k1
    have j2 := keep_cell HB.out k2
    have hres := HS.out.res
    go_wp2_with (refine wpList_store_row rfl 69 _ _ rfl w.heap.size (condC zeroCD) rfl rfl 69 _ hres size_cond rfl (condC_one _) ?_)
    refine bodyPost_ret (v := .tuple #[.agg (condC zeroCD), .int .i64 0]) (results_cnd rfl _ _ w.heap.size (condC zeroCD) _ rfl rfl rfl (setRow_heap _ _ _ _ _ _ hres)) rfl ⟨?_, below_setRow HS.out.below (Nat.le_refl _) _⟩
    rw [HV.out]
  rw [hb1] at e1
  obtain ⟨g, hg⟩ : ∃ g : ByteArray, g = ⟨x.tail.dropLast.toArray⟩ := ⟨_, rfl⟩
  have HV := hide (show docCondV (docCond (a :: [126] :: x :: r)) = .tuple #[.agg (condC ⟨A, 8, 0, 0, g, noNet⟩), .int .i64 3] by rw [HV0.out, if_pos ⟨HX2.out, HH.out.2 hb0, HL.out.2 hb1⟩, ← hg]; rfl)
  rw [← hg] at hmb
  clear hg HV0 HMX
  go_enter Tryz.func62, Tryz.ntmps62
  go_wp2_with fail
  rw [← hV0]
  clear hV0
  refine (HFA _).mono ?_
  rintro e X1 ⟨rfl, hX1⟩
  have HB := hide (below_next hV0b hX1)
  have HR := hide ((hX1.block w.heap.size hV0s).trans hV0r)
  clear hX1 HFA k0
  have l0 : w.heap.size < X1.heap.size := (Array.getElem?_eq_some_iff.1 HR.out).1
  have lb : b < X1.heap.size := Nat.lt_of_lt_of_le hbw HB.out.size
  have HS := hide (DX.start (X := X1) ⟨A, 0, 0, 0, ⟨#[]⟩, noNet⟩ HB.out HR.out)
  have j1 := keep_cell HB.out k1
  have j2 := keep_cell HB.out k2
  have HS2 := hide (DX.start (X := X1) ⟨A, 8, 0, 0, g, noNet⟩ HB.out HR.out)
  have hres2 := HS2.out.res
  go_wp2_with (refine wpList_store_row rfl 69 _ _ rfl w.heap.size (condC ⟨A, 8, 0, 0, g, noNet⟩) rfl rfl 69 _ hres2 size_cond rfl (condC_one _) ?_)
  refine bodyPost_ret (v := .tuple #[.agg (condC ⟨A, 8, 0, 0, g, noNet⟩), .int .i64 3]) (results_cnd rfl _ _ w.heap.size (condC ⟨A, 8, 0, 0, g, noNet⟩) _ rfl rfl rfl (setRow_heap _ _ _ _ _ _ hres2)) rfl ⟨?_, below_setRow HS2.out.below (Nat.le_refl _) _⟩
  rw [HV.out]
end Go.Proofs.YtkogafponpjdnaaGreatDoor

/- The document's condOf: a net. -/
namespace Go.Proofs.YtkogafponpjdnaaGreatDoor
open Go.RowKit Go.Sort

/-- A net stored into the cond's row: of the world only that is kept. -/
theorem wpList_net {ops : Array Oper} {rest : List Oper} {o : Oper} {a : Act} {W : World} {Q : Exit → Act → World → Prop} (hgd : o.guard = none) (x y : Operand) (ho : o.op = .store 67 x y) (hd : o.dst = none) {w : World} {r6 : Nat} {c : CD} (ip : Nat) (nb lo hi : Int)
    (hx : a.eval x = .pointer (some ⟨r6, 5, none⟩)) (hy : a.eval y = .agg #[.int .u32 ip, .int .i64 nb, .int .i64 lo, .int .i64 hi]) (hD : DX w r6 c W)
    (h : ∀ W', DX w r6 ⟨c.arg, c.op, c.v, c.m, c.glob, ⟨ip, nb, lo, hi⟩⟩ W' → wpList Tryz.prog ops Q rest a W') : wpList Tryz.prog ops Q (o :: rest) a W := by
  obtain ⟨arg, op, v, m, g, ⟨i0, b0, l0, h0⟩⟩ := c
  refine wpList_store_mid hgd 67 x y ho r6 5 #[.int .u32 ip, .int .i64 nb, .int .i64 lo, .int .i64 hi] hx hy (fun j hj => ?_) size_net (by simp [Value.oneCell']) ?_
  · rw [hD.cell, hD.fro]
    refine ⟨?_, rfl⟩
    have hj' : j < 4 := hj
    rcases (by omega : j = 0 ∨ j = 1 ∨ j = 2 ∨ j = 3) with rfl | rfl | rfl | rfl <;> rfl
  · rw [hd]
    refine h _ ?_
    exact (((hD.set 5 (.int .u32 ip) ⟨arg, op, v, m, g, ⟨ip, b0, l0, h0⟩⟩ (by rfl)).set 6 (.int .i64 nb) ⟨arg, op, v, m, g, ⟨ip, nb, l0, h0⟩⟩ (by rfl)).set 7 (.int .i64 lo) ⟨arg, op, v, m, g, ⟨ip, nb, lo, h0⟩⟩ (by rfl)).set 8 (.int .i64 hi) ⟨arg, op, v, m, g, ⟨ip, nb, lo, hi⟩⟩ (by rfl)

set_option maxHeartbeats 4000000 in
set_option maxRecDepth 100000 in
/-- A net. -/
theorem dcond_net (a x : W8) (r : List W8) (hsm : ∀ y ∈ a :: [105, 110] :: x :: r, y.length ≤ 9000) (oa : Option Addr) (cap : Nat) (w : World) (hS : IsStrs oa (a :: [105, 110] :: x :: r) w) (hl : (a :: [105, 110] :: x :: r).length ≤ 9001) (hA : figOk a = true ∧ figN a ≤ 3) :
    Calls Tryz.prog 62 #[.slice oa (a :: [105, 110] :: x :: r).length cap] w fun e w' => e = .returned (docCondV (docCond (a :: [105, 110] :: x :: r))) ∧ Below w.heap.size w w' := by
  have HV0 := hide (show docCond (a :: [105, 110] :: x :: r) = (match parseR x with
        | some (ip, b, lo, hi) => some (⟨figN a, 9, 0, 0, ByteArray.empty, ⟨ip, b, lo, hi⟩⟩, 3)
        | none => none) by rw [docCond_cons, if_pos hA, if_neg (by decide), if_neg (by decide), if_pos rfl]; try rfl)
  have HNET := fun X => netOf_any (bs x) (by rw [bs_size]; exact hsm x (by simp)) X
  rw [bs_data] at HNET
  obtain ⟨b, off, rfl, hbw, hc⟩ := hS.lie (by simp)
  obtain ⟨n, hn⟩ : ∃ n, n = (a :: [105, 110] :: x :: r).length := ⟨_, rfl⟩
  have k0 := hc 0 a rfl
  rw [Nat.add_zero] at k0
  have k1 := hc 1 [105, 110] rfl
  have k2 := hc 2 x rfl
  have HC := hide hc
  have hn3 : 3 ≤ n := by rw [hn]; simp
  have hnl : n ≤ 9001 := by omega
  have HN := hide hn
  rw [← hn]
  clear hn hc hS hl
  obtain ⟨V0, hV0, hV0b, hV0r, hV0s⟩ : ∃ V, V = w.alloc (.cells #[.int .i64 0, .int .i64 0, .int .u64 0, .int .u64 0, .string ⟨#[]⟩, .int .u32 0, .int .i64 0, .int .i64 0, .int .i64 0] 69) ∧ Below w.heap.size w V ∧ V.heap[w.heap.size]? = some (.cells (condC zeroCD) 69 (0, 0)) ∧ w.heap.size < V.heap.size := ⟨_, rfl, box_below _ _, heap_alloc_new _ _, by rw [World.size_alloc]; omega⟩
  have HFA := fun X => figures_any (bs a) (by rw [bs_size]; have := hsm a (by simp); omega) X
  rw [bs_data] at HFA
  unfold figV at HFA
  obtain ⟨qa, hqa⟩ : ∃ q, q = bs a := ⟨_, rfl⟩
  rw [← hqa] at HFA k0
  obtain ⟨A, hA⟩ : ∃ u, u = figN a := ⟨_, rfl⟩
  obtain ⟨okA, hok⟩ : ∃ o, o = figOk a := ⟨_, rfl⟩
  rw [← hA, ← hok] at HFA
  have HAA := hide (And.intro hA hok)
  clear hqa hA hok
  have hA3 : A ≤ 3 := by rw [HAA.out.1]; exact hA.2
  obtain rfl : okA = true := by rw [HAA.out.2]; exact hA.1
  have hwr : IntKind.i64.wrap (A : Int) = A := by rw [IntKind.wrap_i64]; omega
  unfold bs at k1
  rw [← HAA.out.1] at HV0
  obtain ⟨q, hq⟩ : ∃ q, q = bs x := ⟨_, rfl⟩
  rw [← hq] at k2 HNET
  clear hq
  cases hp : parseR x with
  | none =>
    have HV := hide (show docCondV (docCond (a :: [105, 110] :: x :: r)) = .tuple #[.agg (condC zeroCD), .int .i64 0] by rw [HV0.out, hp]; rfl)
    rw [hp] at HNET
    unfold netOfV at HNET
    simp only at HNET
    clear HV0 hp
    go_enter Tryz.func62, Tryz.ntmps62
    go_wp2_with fail
    rw [← hV0]
    clear hV0
    refine (HFA _).mono ?_
    rintro e X1 ⟨rfl, hX1⟩
    have HB := hide (below_next hV0b hX1)
    have HR := hide ((hX1.block w.heap.size hV0s).trans hV0r)
    clear hX1 HFA k0
    have l0 : w.heap.size < X1.heap.size := (Array.getElem?_eq_some_iff.1 HR.out).1
    have lb : b < X1.heap.size := Nat.lt_of_lt_of_le hbw HB.out.size
    have HS := hide (DX.start (X := X1) ⟨A, 0, 0, 0, ⟨#[]⟩, noNet⟩ HB.out HR.out)
    have j1 := keep_cell HB.out k1
    have j2 := keep_cell HB.out k2
    go_wp2_with fail
    refine (HNET _).mono ?_
    rintro e Y1 ⟨rfl, hY1⟩
    have HC1 := hide (HS.out.on hY1)
    clear hY1 HS j1 j2
    have hres := fun o => (HC1.out.on (box_below Y1 o)).res
    go_wp2_with (refine wpList_store_row rfl 69 _ _ rfl w.heap.size (condC zeroCD) rfl rfl 69 _ (hres _) size_cond rfl (condC_one _) ?_)
    refine bodyPost_ret (v := .tuple #[.agg (condC zeroCD), .int .i64 0]) (results_cnd rfl _ _ w.heap.size (condC zeroCD) _ rfl rfl rfl (setRow_heap _ _ _ _ _ _ (hres _))) rfl ⟨?_, below_setRow (below_next HC1.out.below (box_below _ _)) (Nat.le_refl _) _⟩
    rw [HV.out]
  | some v =>
    obtain ⟨ip, nb, lo, hi⟩ := v
    have HV := hide (show docCondV (docCond (a :: [105, 110] :: x :: r)) = .tuple #[.agg (condC ⟨A, 9, 0, 0, ⟨#[]⟩, ⟨ip, nb, lo, hi⟩⟩), .int .i64 3] by rw [HV0.out, hp]; rfl)
    rw [hp] at HNET
    unfold netOfV at HNET
    simp only at HNET
    clear HV0 hp
    go_enter Tryz.func62, Tryz.ntmps62
    go_wp2_with fail
    rw [← hV0]
    clear hV0
    refine (HFA _).mono ?_
    rintro e X1 ⟨rfl, hX1⟩
    have HB := hide (below_next hV0b hX1)
    have HR := hide ((hX1.block w.heap.size hV0s).trans hV0r)
    clear hX1 HFA k0
    have l0 : w.heap.size < X1.heap.size := (Array.getElem?_eq_some_iff.1 HR.out).1
    have lb : b < X1.heap.size := Nat.lt_of_lt_of_le hbw HB.out.size
    have HS := hide (DX.start (X := X1) ⟨A, 0, 0, 0, ⟨#[]⟩, noNet⟩ HB.out HR.out)
    have j1 := keep_cell HB.out k1
    have j2 := keep_cell HB.out k2
    go_wp2_with fail
    refine calls_forget (W0 := X1.alloc (.cells #[.int .i64 A, .int .i64 0, .int .u64 0, .int .u64 0, .string ⟨#[]⟩, .int .u32 0, .int .i64 0, .int .i64 0, .int .i64 0] 69)) (DX w X1.heap.size ⟨A, 0, 0, 0, ⟨#[]⟩, noNet⟩) HS.out ?_
    clear HS j1 j2 HB HR
    obtain ⟨r6, hr6⟩ : ∃ r, r = X1.heap.size := ⟨_, rfl⟩
    rw [← hr6]
    clear hr6 l0 lb
    intro Y hY
    refine (HNET _).mono ?_
    rintro e Y1 ⟨rfl, hY1⟩
    have HC1 := hide (hY.on hY1)
    clear hY hY1 HNET k1 k2
    have HC2 := hide (HC1.out.on (box_below Y1 (.cells #[.int .u32 ip, .int .i64 nb, .int .i64 lo, .int .i64 hi] 67)))
    have l6 : r6 < Y1.heap.size := (Array.getElem?_eq_some_iff.1 HC1.out.row).1
    have l7 : w.heap.size < Y1.heap.size := (Array.getElem?_eq_some_iff.1 HC1.out.res).1
    have c0 := HC1.out.cell 0
    have c1 := HC1.out.cell 1
    have c2 := HC1.out.cell 2
    have c3 := HC1.out.cell 3
    have c4 := HC1.out.cell 4
    have c5 := HC1.out.cell 5
    have c6 := HC1.out.cell 6
    have c7 := HC1.out.cell 7
    have c8 := HC1.out.cell 8
    simp only [condC, noNet, List.getElem?_toArray, List.getElem?_cons_zero, List.getElem?_cons_succ] at c0 c1 c2 c3 c4 c5 c6 c7 c8
    have f1 := HC1.out.fro 1
    have f5 := HC1.out.fro 5
    have f6 := HC1.out.fro 6
    have f7 := HC1.out.fro 7
    have f8 := HC1.out.fro 8
    have HS2 := hide ((HC1.out.set 1 (.int .i64 9) ⟨A, 9, 0, 0, ⟨#[]⟩, noNet⟩ (by rfl)).on (box_below _ (.cells #[.int .u32 ip, .int .i64 nb, .int .i64 lo, .int .i64 hi] 67)))
    go_wp2_with (first
      | (refine wpList_net rfl _ _ rfl rfl ip nb lo hi rfl rfl HS2.out ?_; intro W' hD; have HD := hide hD; clear hD; clear c0 c1 c2 c3 c4 c5 c6 c7 c8; have c0 := HD.out.cell 0; have c1 := HD.out.cell 1; have c2 := HD.out.cell 2; have c3 := HD.out.cell 3; have c4 := HD.out.cell 4; have c5 := HD.out.cell 5; have c6 := HD.out.cell 6; have c7 := HD.out.cell 7; have c8 := HD.out.cell 8; simp only [condC, List.getElem?_toArray, List.getElem?_cons_zero, List.getElem?_cons_succ] at c0 c1 c2 c3 c4 c5 c6 c7 c8; have hres2 := HD.out.res)
      | (refine wpList_store_row rfl 69 _ _ rfl w.heap.size (condC ⟨A, 9, 0, 0, ⟨#[]⟩, ⟨ip, nb, lo, hi⟩⟩) rfl rfl 69 _ hres2 size_cond rfl (condC_one _) ?_))
    refine bodyPost_ret (v := .tuple #[.agg (condC ⟨A, 9, 0, 0, ⟨#[]⟩, ⟨ip, nb, lo, hi⟩⟩), .int .i64 3]) (results_cnd rfl _ _ w.heap.size (condC ⟨A, 9, 0, 0, ⟨#[]⟩, ⟨ip, nb, lo, hi⟩⟩) _ rfl rfl rfl (setRow_heap _ _ _ _ _ _ hres2)) rfl ⟨?_, below_setRow HD.out.below (Nat.le_refl _) _⟩
    rw [HV.out]
end Go.Proofs.YtkogafponpjdnaaGreatDoor

/- The document's condOf: a number. -/
namespace Go.Proofs.YtkogafponpjdnaaGreatDoor
open Go.RowKit Go.Sort

/-- The signs' table. -/
def sigT (j : Nat) : W8 := ([[], [61, 61], [33, 61], [60], [60, 61], [62], [62, 61]] : List W8).getD j []
def OpAt (s : W8) (K i : Nat) : Prop := (K = 0 ∧ ∀ j, 1 ≤ j → j < i → sigT j ≠ s) ∨ (1 ≤ K ∧ K < i ∧ sigT K = s)
theorem op_end {s : W8} {K : Nat} (h : OpAt s K 7) : K = findOp6 s := by
  rcases h with ⟨rfl, h⟩ | ⟨h1, h2, rfl⟩
  · unfold findOp6
    cases hf : (signW.take 6).findIdx? (· == s) with
    | none => rfl
    | some i =>
      have h1 := find_some hf
      have hi : i < 6 := h1.2
      refine absurd ?_ (h (i + 1) (by omega) (by omega))
      rw [← h1.1]
      rcases (by omega : i = 0 ∨ i = 1 ∨ i = 2 ∨ i = 3 ∨ i = 4 ∨ i = 5) with rfl | rfl | rfl | rfl | rfl | rfl <;> rfl
  · rcases (by omega : K = 1 ∨ K = 2 ∨ K = 3 ∨ K = 4 ∨ K = 5 ∨ K = 6) with rfl | rfl | rfl | rfl | rfl | rfl <;> rfl

set_option maxHeartbeats 4000000 in
set_option maxRecDepth 100000 in
/-- A number. -/
theorem dcond_num (a s x : W8) (r : List W8) (hsm : ∀ y ∈ a :: s :: x :: r, y.length ≤ 9000) (oa : Option Addr) (cap : Nat) (w : World) (hS : IsStrs oa (a :: s :: x :: r) w) (hl : (a :: s :: x :: r).length ≤ 9001) (hA : figOk a = true ∧ figN a ≤ 3) (h38 : s ≠ [38]) (h126 : s ≠ [126]) (hin : s ≠ [105, 110]) :
    Calls Tryz.prog 62 #[.slice oa (a :: s :: x :: r).length cap] w fun e w' => e = .returned (docCondV (docCond (a :: s :: x :: r))) ∧ Below w.heap.size w w' := by
  have HV0 := hide (show docCond (a :: s :: x :: r) = if findOp6 s ≠ 0 ∧ figOk x = true then some (⟨figN a, findOp6 s, figN x, 0, ByteArray.empty, noNet⟩, 3) else none by rw [docCond_cons, if_pos hA, if_neg h38, if_neg h126, if_neg hin])
  obtain ⟨b, off, rfl, hbw, hc⟩ := hS.lie (by simp)
  obtain ⟨n, hn⟩ : ∃ n, n = (a :: s :: x :: r).length := ⟨_, rfl⟩
  have k0 := hc 0 a rfl
  rw [Nat.add_zero] at k0
  have k1 := hc 1 s rfl
  have k2 := hc 2 x rfl
  have HC := hide hc
  have hn3 : 3 ≤ n := by rw [hn]; simp
  have hnl : n ≤ 9001 := by omega
  have HN := hide hn
  rw [← hn]
  clear hn hc hS hl
  obtain ⟨V0, hV0, hV0b, hV0r, hV0s⟩ : ∃ V, V = w.alloc (.cells #[.int .i64 0, .int .i64 0, .int .u64 0, .int .u64 0, .string ⟨#[]⟩, .int .u32 0, .int .i64 0, .int .i64 0, .int .i64 0] 69) ∧ Below w.heap.size w V ∧ V.heap[w.heap.size]? = some (.cells (condC zeroCD) 69 (0, 0)) ∧ w.heap.size < V.heap.size := ⟨_, rfl, box_below _ _, heap_alloc_new _ _, by rw [World.size_alloc]; omega⟩
  have HFA := fun X => figures_any (bs a) (by rw [bs_size]; have := hsm a (by simp); omega) X
  rw [bs_data] at HFA
  unfold figV at HFA
  obtain ⟨qa, hqa⟩ : ∃ q, q = bs a := ⟨_, rfl⟩
  rw [← hqa] at HFA k0
  obtain ⟨A, hA⟩ : ∃ u, u = figN a := ⟨_, rfl⟩
  obtain ⟨okA, hok⟩ : ∃ o, o = figOk a := ⟨_, rfl⟩
  rw [← hA, ← hok] at HFA
  have HAA := hide (And.intro hA hok)
  clear hqa hA hok
  have hA3 : A ≤ 3 := by rw [HAA.out.1]; exact hA.2
  obtain rfl : okA = true := by rw [HAA.out.2]; exact hA.1
  have hwr : IntKind.i64.wrap (A : Int) = A := by rw [IntKind.wrap_i64]; omega
  rw [← HAA.out.1] at HV0
  have HFX := fun X => figures_any (bs x) (by rw [bs_size]; have := hsm x (by simp); omega) X
  rw [bs_data] at HFX
  unfold figV at HFX
  obtain ⟨M, hM⟩ : ∃ u, u = figN x := ⟨_, rfl⟩
  obtain ⟨ok1, ho1⟩ : ∃ o, o = figOk x := ⟨_, rfl⟩
  rw [← hM, ← ho1] at HFX HV0
  clear hM ho1
  have b1 := beq_no h38
  have b2 := beq_no h126
  have b3 := beq_no hin
  obtain ⟨q, hq⟩ : ∃ q, q = bs s := ⟨_, rfl⟩
  have hqs : q.toList = s := by rw [hq, bs_toList]
  rw [← hqs] at b1 b2 b3
  have HQS := hide hqs
  rw [← hq] at k1
  clear hq hqs h38 h126 hin
  obtain ⟨qx, hqx⟩ : ∃ q, q = bs x := ⟨_, rfl⟩
  rw [← hqx] at k2 HFX
  clear hqx
  go_enter Tryz.func62, Tryz.ntmps62
  go_wp2_with fail
  rw [← hV0]
  clear hV0
  refine (HFA _).mono ?_
  rintro e X1 ⟨rfl, hX1⟩
  have HB := hide (below_next hV0b hX1)
  have HR := hide ((hX1.block w.heap.size hV0s).trans hV0r)
  clear hX1 HFA k0
  have l0 : w.heap.size < X1.heap.size := (Array.getElem?_eq_some_iff.1 HR.out).1
  have lb : b < X1.heap.size := Nat.lt_of_lt_of_le hbw HB.out.size
  have HS := hide (DX.start (X := X1) ⟨A, 0, 0, 0, ⟨#[]⟩, noNet⟩ HB.out HR.out)
  have j1 := keep_cell HB.out k1
  have j2 := keep_cell HB.out k2
  obtain ⟨U, hU⟩ : ∃ U, U = X1.alloc (.cells #[.int .i64 A, .int .i64 0, .int .u64 0, .int .u64 0, .string ⟨#[]⟩, .int .u32 0, .int .i64 0, .int .i64 0, .int .i64 0] 69) := ⟨_, rfl⟩
  obtain ⟨T, hT, hTb, hTs, hTc⟩ := one_box U #[.string ⟨#[]⟩, .string ⟨#[61, 61]⟩, .string ⟨#[33, 61]⟩, .string ⟨#[60]⟩, .string ⟨#[60, 61]⟩, .string ⟨#[62]⟩, .string ⟨#[62, 61]⟩] 109
  have HD0 := hide (HS.out.on (show Below (X1.alloc (.cells #[.int .i64 A, .int .i64 0, .int .u64 0, .int .u64 0, .string ⟨#[]⟩, .int .u32 0, .int .i64 0, .int .i64 0, .int .i64 0] 69)).heap.size (X1.alloc (.cells #[.int .i64 A, .int .i64 0, .int .u64 0, .int .u64 0, .string ⟨#[]⟩, .int .u32 0, .int .i64 0, .int .i64 0, .int .i64 0] 69)) T by rw [← hU]; exact hTb))
  have HTC := hide (show ∀ j, j < 7 → T.cell? ⟨U.heap.size, j, none⟩ = some (.string (bs (sigT j))) from fun j hj => by
    rw [hTc]
    rcases (by omega : j = 0 ∨ j = 1 ∨ j = 2 ∨ j = 3 ∨ j = 4 ∨ j = 5 ∨ j = 6) with rfl | rfl | rfl | rfl | rfl | rfl | rfl <;> rfl)
  have hUs : U.heap.size = X1.heap.size + 1 := by rw [hU, World.size_alloc]
  rw [hUs] at HTC hTs
  clear hTc
  go_wp2
  rw [← hU, ← hT]
  rw [hU] at hUs
  clear hT hU hTb hUs HS HR l0 lb j1 j2
  have hBX := HB.out.size
  clear HB
  obtain ⟨r6, hr6⟩ : ∃ r, r = X1.heap.size := ⟨_, rfl⟩
  rw [← hr6] at HD0 HTC ⊢
  clear hr6 hTs hBX
  go_loopw [15] (fun I w' => ∃ i K : Nat, 1 ≤ i ∧ i ≤ 7 ∧ I = .int .i64 i ∧ Hid (OpAt s K i) ∧ Hid (DX w r6 ⟨A, K, 0, 0, ⟨#[]⟩, noNet⟩ w') ∧ Hid (∀ j, j < 7 → w'.cell? ⟨r6 + 1, j, none⟩ = some (.string (bs (sigT j))))) (fun I _ => 7 - (intOf I).toNat)
  case atStart => exact ⟨1, 0, by omega, by omega, rfl, hide (.inl ⟨rfl, fun j h1 h2 => by omega⟩), HD0, HTC⟩
  case round =>
    obtain ⟨i, K, h1i, hi7, rfl, HOP, HD, HT⟩ := hrel
    clear HD0 HTC
    have i1 : (0 : Int) ≤ i := by omega
    by_cases hlt : i < 7
    · have i2 : (i : Int) < 7 := by omega
      have c := HT.out i hlt
      obtain ⟨st, hst⟩ : ∃ z, z = bs (sigT i) := ⟨_, rfl⟩
      rw [← hst] at c
      have HSS := hide (show st.toList = sigT i by rw [hst, bs_toList])
      clear hst
      have j1 := keep_cell HD.out.below k1
      by_cases he : st.toList = q.toList
      · have HOP2 := hide (show OpAt s i (i + 1) from .inr ⟨h1i, by omega, by rw [← HSS.out, he, HQS.out]⟩)
        have he2 : (st.toList == q.toList) = true := by simpa using he
        have c1 := HD.out.cell 1
        simp only [condC, List.getElem?_toArray, List.getElem?_cons_zero, List.getElem?_cons_succ] at c1
        have f1 := HD.out.fro 1
        clear he
        go_wp2_with fail
        go_quiet (fail)
        go_wp2
        go_round
        case rel => exact ⟨i + 1, i, by omega, by omega, by go_num, HOP2, hide ((HD.out.on (below_drewN' (Below.refl _ _) _)).set 1 (.int .i64 i) ⟨A, i, 0, 0, ⟨#[]⟩, noNet⟩ (by rfl)), hide (fun j hj => (But.set r6 1 _ _).cell (by omega) (HT.out j hj))⟩
        case measure => simp [intOf]; omega
      · have HOP2 := hide (show OpAt s K (i + 1) by
          rcases HOP.out with ⟨h0, h2⟩ | ⟨h0, h2, h3⟩
          · refine .inl ⟨h0, fun j hj1 hj2 => ?_⟩
            by_cases e : j = i
            · rw [e, ← HSS.out, ← HQS.out]; exact he
            · exact h2 j hj1 (by omega)
          · exact .inr ⟨h0, by omega, h3⟩)
        have he2 : (st.toList == q.toList) = false := by simpa using he
        clear he
        go_wp2_with fail
        go_quiet (fail)
        go_wp2
        go_round
        case rel => exact ⟨i + 1, K, by omega, by omega, by go_num, HOP2, hide (by first | exact HD.out | exact HD.out.on (Below.refl _ _).drew | exact HD.out.on (below_drewN' (Below.refl _ _) _)), hide (by first | exact HT.out | exact fun j hj => HT.out j hj)⟩
        case measure => simp [intOf]; omega
    · obtain rfl : i = 7 := by omega
      have hK := op_end HOP.out
      rw [← hK] at HV0
      have HK6 := hide (show K ≤ 6 by rcases HOP.out with ⟨h0, _⟩ | ⟨_, h0, _⟩ <;> omega)
      have j2 := keep_cell HD.out.below k2
      clear hK HOP
      go_wp2_with fail
      refine (HFX _).mono ?_
      rintro e Y ⟨rfl, hY⟩
      have HC2 := hide (HD.out.on hY)
      clear hY HD HFX j2
      have c0 := HC2.out.cell 0
      have c1 := HC2.out.cell 1
      have c2 := HC2.out.cell 2
      have c3 := HC2.out.cell 3
      have c4 := HC2.out.cell 4
      have c5 := HC2.out.cell 5
      have c6 := HC2.out.cell 6
      have c7 := HC2.out.cell 7
      have c8 := HC2.out.cell 8
      simp only [condC, noNet, List.getElem?_toArray, List.getElem?_cons_zero, List.getElem?_cons_succ] at c0 c1 c2 c3 c4 c5 c6 c7 c8
      have hres := HC2.out.res
      by_cases hK0 : K = 0
      · have HV := hide (show docCondV (docCond (a :: s :: x :: r)) = .tuple #[.agg (condC zeroCD), .int .i64 0] by rw [HV0.out, if_neg (fun h => h.1 hK0)]; rfl)
        subst hK0
        go_wp2_with (refine wpList_store_row rfl 69 _ _ rfl w.heap.size (condC zeroCD) rfl rfl 69 _ hres size_cond rfl (condC_one _) ?_)
        refine bodyPost_ret (v := .tuple #[.agg (condC zeroCD), .int .i64 0]) (results_cnd rfl _ _ w.heap.size (condC zeroCD) _ rfl rfl rfl (setRow_heap _ _ _ _ _ _ hres)) rfl ⟨?_, below_setRow HC2.out.below (Nat.le_refl _) _⟩
        rw [HV.out]
      have bK : ((K : Int) == 0) = false := by simp; omega
      cases ok1 with
      | false =>
        have HV := hide (show docCondV (docCond (a :: s :: x :: r)) = .tuple #[.agg (condC zeroCD), .int .i64 0] by rw [HV0.out, if_neg (fun h => by simp at h)]; rfl)
        clear hK0
        go_wp2_with (refine wpList_store_row rfl 69 _ _ rfl w.heap.size (condC zeroCD) rfl rfl 69 _ hres size_cond rfl (condC_one _) ?_)
        refine bodyPost_ret (v := .tuple #[.agg (condC zeroCD), .int .i64 0]) (results_cnd rfl _ _ w.heap.size (condC zeroCD) _ rfl rfl rfl (setRow_heap _ _ _ _ _ _ hres)) rfl ⟨?_, below_setRow HC2.out.below (Nat.le_refl _) _⟩
        rw [HV.out]
      | true =>
        have HV := hide (show docCondV (docCond (a :: s :: x :: r)) = .tuple #[.agg (condC ⟨A, K, M, 0, ⟨#[]⟩, noNet⟩), .int .i64 3] by rw [HV0.out, if_pos ⟨hK0, rfl⟩]; rfl)
        clear hK0
        have f2 := HC2.out.fro 2
        have HS2 := hide (HC2.out.set 2 (.int .u64 M) ⟨A, K, M, 0, ⟨#[]⟩, noNet⟩ (by rfl))
        have hres2 := HS2.out.res
        go_wp2_with (refine wpList_store_row rfl 69 _ _ rfl w.heap.size (condC ⟨A, K, M, 0, ⟨#[]⟩, noNet⟩) rfl rfl 69 _ hres2 size_cond rfl (condC_one _) ?_)
        refine bodyPost_ret (v := .tuple #[.agg (condC ⟨A, K, M, 0, ⟨#[]⟩, noNet⟩), .int .i64 3]) (results_cnd rfl _ _ w.heap.size (condC ⟨A, K, M, 0, ⟨#[]⟩, noNet⟩) _ rfl rfl rfl (setRow_heap _ _ _ _ _ _ hres2)) rfl ⟨?_, below_setRow HS2.out.below (Nat.le_refl _) _⟩
        rw [HV.out]
end Go.Proofs.YtkogafponpjdnaaGreatDoor

/- The document's condOf, whole. -/
namespace Go.Proofs.YtkogafponpjdnaaGreatDoor
open Go.RowKit Go.Sort

theorem dcond_any (ws : List W8) (hsm : ∀ y ∈ ws, y.length ≤ 9000) (oa : Option Addr) (cap : Nat) (w : World) (hS : IsStrs oa ws w) (hl : ws.length ≤ 9001) :
    Calls Tryz.prog 62 #[.slice oa ws.length cap] w fun e w' => e = .returned (docCondV (docCond ws)) ∧ Below w.heap.size w w' := by
  match ws, hsm, hS, hl with
  | [], _, _, _ => exact dcond_few [] oa cap w (by simp)
  | [y], _, _, _ => exact dcond_few [y] oa cap w (by simp)
  | [y, z], _, _, _ => exact dcond_few [y, z] oa cap w (by simp)
  | a :: s :: x :: r, hsm, hS, hl =>
    by_cases hA : figOk a = true ∧ figN a ≤ 3
    · by_cases h1 : s = [38]
      · subst h1; exact dcond_mask a x r hsm oa cap w hS hl hA
      by_cases h2 : s = [126]
      · subst h2; exact dcond_like a x r hsm oa cap w hS hl hA
      by_cases h3 : s = [105, 110]
      · subst h3; exact dcond_net a x r hsm oa cap w hS hl hA
      exact dcond_num a s x r hsm oa cap w hS hl hA h1 h2 h3
    · exact dcond_arg a s x r hsm oa cap w hS hl hA
end Go.Proofs.YtkogafponpjdnaaGreatDoor

/- The document's Kind at every call and argument. -/
namespace Go.Proofs.YtkogafponpjdnaaGreatDoor
open Go.RowKit

theorem kindIdx_0 (w : World) : (Instr.index 81 (.agg #[.string ⟨#[49, 49]⟩, .string ⟨#[49, 49]⟩, .string ⟨#[50, 49, 49]⟩, .string ⟨#[49]⟩, .string ⟨#[50]⟩, .string ⟨#[50, 50]⟩, .string ⟨#[49, 51]⟩, .string ⟨#[50, 50, 49]⟩, .string ⟨#[49, 49, 51, 49]⟩]) (.int .i64 0)).run Tryz.prog w = .ok (.string ⟨#[49, 49]⟩) w := by kernel_rfl
theorem kindIdx_1 (w : World) : (Instr.index 81 (.agg #[.string ⟨#[49, 49]⟩, .string ⟨#[49, 49]⟩, .string ⟨#[50, 49, 49]⟩, .string ⟨#[49]⟩, .string ⟨#[50]⟩, .string ⟨#[50, 50]⟩, .string ⟨#[49, 51]⟩, .string ⟨#[50, 50, 49]⟩, .string ⟨#[49, 49, 51, 49]⟩]) (.int .i64 1)).run Tryz.prog w = .ok (.string ⟨#[49, 49]⟩) w := by kernel_rfl
theorem kindIdx_2 (w : World) : (Instr.index 81 (.agg #[.string ⟨#[49, 49]⟩, .string ⟨#[49, 49]⟩, .string ⟨#[50, 49, 49]⟩, .string ⟨#[49]⟩, .string ⟨#[50]⟩, .string ⟨#[50, 50]⟩, .string ⟨#[49, 51]⟩, .string ⟨#[50, 50, 49]⟩, .string ⟨#[49, 49, 51, 49]⟩]) (.int .i64 2)).run Tryz.prog w = .ok (.string ⟨#[50, 49, 49]⟩) w := by kernel_rfl
theorem kindIdx_3 (w : World) : (Instr.index 81 (.agg #[.string ⟨#[49, 49]⟩, .string ⟨#[49, 49]⟩, .string ⟨#[50, 49, 49]⟩, .string ⟨#[49]⟩, .string ⟨#[50]⟩, .string ⟨#[50, 50]⟩, .string ⟨#[49, 51]⟩, .string ⟨#[50, 50, 49]⟩, .string ⟨#[49, 49, 51, 49]⟩]) (.int .i64 3)).run Tryz.prog w = .ok (.string ⟨#[49]⟩) w := by kernel_rfl
theorem kindIdx_4 (w : World) : (Instr.index 81 (.agg #[.string ⟨#[49, 49]⟩, .string ⟨#[49, 49]⟩, .string ⟨#[50, 49, 49]⟩, .string ⟨#[49]⟩, .string ⟨#[50]⟩, .string ⟨#[50, 50]⟩, .string ⟨#[49, 51]⟩, .string ⟨#[50, 50, 49]⟩, .string ⟨#[49, 49, 51, 49]⟩]) (.int .i64 4)).run Tryz.prog w = .ok (.string ⟨#[50]⟩) w := by kernel_rfl
theorem kindIdx_5 (w : World) : (Instr.index 81 (.agg #[.string ⟨#[49, 49]⟩, .string ⟨#[49, 49]⟩, .string ⟨#[50, 49, 49]⟩, .string ⟨#[49]⟩, .string ⟨#[50]⟩, .string ⟨#[50, 50]⟩, .string ⟨#[49, 51]⟩, .string ⟨#[50, 50, 49]⟩, .string ⟨#[49, 49, 51, 49]⟩]) (.int .i64 5)).run Tryz.prog w = .ok (.string ⟨#[50, 50]⟩) w := by kernel_rfl
theorem kindIdx_6 (w : World) : (Instr.index 81 (.agg #[.string ⟨#[49, 49]⟩, .string ⟨#[49, 49]⟩, .string ⟨#[50, 49, 49]⟩, .string ⟨#[49]⟩, .string ⟨#[50]⟩, .string ⟨#[50, 50]⟩, .string ⟨#[49, 51]⟩, .string ⟨#[50, 50, 49]⟩, .string ⟨#[49, 49, 51, 49]⟩]) (.int .i64 6)).run Tryz.prog w = .ok (.string ⟨#[49, 51]⟩) w := by kernel_rfl
theorem kindIdx_7 (w : World) : (Instr.index 81 (.agg #[.string ⟨#[49, 49]⟩, .string ⟨#[49, 49]⟩, .string ⟨#[50, 49, 49]⟩, .string ⟨#[49]⟩, .string ⟨#[50]⟩, .string ⟨#[50, 50]⟩, .string ⟨#[49, 51]⟩, .string ⟨#[50, 50, 49]⟩, .string ⟨#[49, 49, 51, 49]⟩]) (.int .i64 7)).run Tryz.prog w = .ok (.string ⟨#[50, 50, 49]⟩) w := by kernel_rfl
theorem kindIdx_8 (w : World) : (Instr.index 81 (.agg #[.string ⟨#[49, 49]⟩, .string ⟨#[49, 49]⟩, .string ⟨#[50, 49, 49]⟩, .string ⟨#[49]⟩, .string ⟨#[50]⟩, .string ⟨#[50, 50]⟩, .string ⟨#[49, 51]⟩, .string ⟨#[50, 50, 49]⟩, .string ⟨#[49, 49, 51, 49]⟩]) (.int .i64 8)).run Tryz.prog w = .ok (.string ⟨#[49, 49, 51, 49]⟩) w := by kernel_rfl
theorem kind_0_0 (w : World) : Calls Tryz.prog 39 #[.int .i64 0, .int .i64 0] w fun e w' => e = .returned (.int .i64 1) ∧ w' = w := by
  have hi := kindIdx_0
  go_enter Tryz.func39, Tryz.ntmps39
  go_wp2
  go_ret
  exact ⟨rfl, rfl⟩
theorem kind_0_1 (w : World) : Calls Tryz.prog 39 #[.int .i64 0, .int .i64 1] w fun e w' => e = .returned (.int .i64 1) ∧ w' = w := by
  have hi := kindIdx_0
  go_enter Tryz.func39, Tryz.ntmps39
  go_wp2
  go_ret
  exact ⟨rfl, rfl⟩
theorem kind_0_2 (w : World) : Calls Tryz.prog 39 #[.int .i64 0, .int .i64 2] w fun e w' => e = .returned (.int .i64 0) ∧ w' = w := by
  have hi := kindIdx_0
  go_enter Tryz.func39, Tryz.ntmps39
  go_wp2
  go_ret
  exact ⟨rfl, rfl⟩
theorem kind_0_3 (w : World) : Calls Tryz.prog 39 #[.int .i64 0, .int .i64 3] w fun e w' => e = .returned (.int .i64 0) ∧ w' = w := by
  have hi := kindIdx_0
  go_enter Tryz.func39, Tryz.ntmps39
  go_wp2
  go_ret
  exact ⟨rfl, rfl⟩
theorem kind_1_0 (w : World) : Calls Tryz.prog 39 #[.int .i64 1, .int .i64 0] w fun e w' => e = .returned (.int .i64 1) ∧ w' = w := by
  have hi := kindIdx_1
  go_enter Tryz.func39, Tryz.ntmps39
  go_wp2
  go_ret
  exact ⟨rfl, rfl⟩
theorem kind_1_1 (w : World) : Calls Tryz.prog 39 #[.int .i64 1, .int .i64 1] w fun e w' => e = .returned (.int .i64 1) ∧ w' = w := by
  have hi := kindIdx_1
  go_enter Tryz.func39, Tryz.ntmps39
  go_wp2
  go_ret
  exact ⟨rfl, rfl⟩
theorem kind_1_2 (w : World) : Calls Tryz.prog 39 #[.int .i64 1, .int .i64 2] w fun e w' => e = .returned (.int .i64 0) ∧ w' = w := by
  have hi := kindIdx_1
  go_enter Tryz.func39, Tryz.ntmps39
  go_wp2
  go_ret
  exact ⟨rfl, rfl⟩
theorem kind_1_3 (w : World) : Calls Tryz.prog 39 #[.int .i64 1, .int .i64 3] w fun e w' => e = .returned (.int .i64 0) ∧ w' = w := by
  have hi := kindIdx_1
  go_enter Tryz.func39, Tryz.ntmps39
  go_wp2
  go_ret
  exact ⟨rfl, rfl⟩
theorem kind_2_0 (w : World) : Calls Tryz.prog 39 #[.int .i64 2, .int .i64 0] w fun e w' => e = .returned (.int .i64 2) ∧ w' = w := by
  have hi := kindIdx_2
  go_enter Tryz.func39, Tryz.ntmps39
  go_wp2
  go_ret
  exact ⟨rfl, rfl⟩
theorem kind_2_1 (w : World) : Calls Tryz.prog 39 #[.int .i64 2, .int .i64 1] w fun e w' => e = .returned (.int .i64 1) ∧ w' = w := by
  have hi := kindIdx_2
  go_enter Tryz.func39, Tryz.ntmps39
  go_wp2
  go_ret
  exact ⟨rfl, rfl⟩
theorem kind_2_2 (w : World) : Calls Tryz.prog 39 #[.int .i64 2, .int .i64 2] w fun e w' => e = .returned (.int .i64 1) ∧ w' = w := by
  have hi := kindIdx_2
  go_enter Tryz.func39, Tryz.ntmps39
  go_wp2
  go_ret
  exact ⟨rfl, rfl⟩
theorem kind_2_3 (w : World) : Calls Tryz.prog 39 #[.int .i64 2, .int .i64 3] w fun e w' => e = .returned (.int .i64 0) ∧ w' = w := by
  have hi := kindIdx_2
  go_enter Tryz.func39, Tryz.ntmps39
  go_wp2
  go_ret
  exact ⟨rfl, rfl⟩
theorem kind_3_0 (w : World) : Calls Tryz.prog 39 #[.int .i64 3, .int .i64 0] w fun e w' => e = .returned (.int .i64 1) ∧ w' = w := by
  have hi := kindIdx_3
  go_enter Tryz.func39, Tryz.ntmps39
  go_wp2
  go_ret
  exact ⟨rfl, rfl⟩
theorem kind_3_1 (w : World) : Calls Tryz.prog 39 #[.int .i64 3, .int .i64 1] w fun e w' => e = .returned (.int .i64 0) ∧ w' = w := by
  have hi := kindIdx_3
  go_enter Tryz.func39, Tryz.ntmps39
  go_wp2
  go_ret
  exact ⟨rfl, rfl⟩
theorem kind_3_2 (w : World) : Calls Tryz.prog 39 #[.int .i64 3, .int .i64 2] w fun e w' => e = .returned (.int .i64 0) ∧ w' = w := by
  have hi := kindIdx_3
  go_enter Tryz.func39, Tryz.ntmps39
  go_wp2
  go_ret
  exact ⟨rfl, rfl⟩
theorem kind_3_3 (w : World) : Calls Tryz.prog 39 #[.int .i64 3, .int .i64 3] w fun e w' => e = .returned (.int .i64 0) ∧ w' = w := by
  have hi := kindIdx_3
  go_enter Tryz.func39, Tryz.ntmps39
  go_wp2
  go_ret
  exact ⟨rfl, rfl⟩
theorem kind_4_0 (w : World) : Calls Tryz.prog 39 #[.int .i64 4, .int .i64 0] w fun e w' => e = .returned (.int .i64 2) ∧ w' = w := by
  have hi := kindIdx_4
  go_enter Tryz.func39, Tryz.ntmps39
  go_wp2
  go_ret
  exact ⟨rfl, rfl⟩
theorem kind_4_1 (w : World) : Calls Tryz.prog 39 #[.int .i64 4, .int .i64 1] w fun e w' => e = .returned (.int .i64 0) ∧ w' = w := by
  have hi := kindIdx_4
  go_enter Tryz.func39, Tryz.ntmps39
  go_wp2
  go_ret
  exact ⟨rfl, rfl⟩
theorem kind_4_2 (w : World) : Calls Tryz.prog 39 #[.int .i64 4, .int .i64 2] w fun e w' => e = .returned (.int .i64 0) ∧ w' = w := by
  have hi := kindIdx_4
  go_enter Tryz.func39, Tryz.ntmps39
  go_wp2
  go_ret
  exact ⟨rfl, rfl⟩
theorem kind_4_3 (w : World) : Calls Tryz.prog 39 #[.int .i64 4, .int .i64 3] w fun e w' => e = .returned (.int .i64 0) ∧ w' = w := by
  have hi := kindIdx_4
  go_enter Tryz.func39, Tryz.ntmps39
  go_wp2
  go_ret
  exact ⟨rfl, rfl⟩
theorem kind_5_0 (w : World) : Calls Tryz.prog 39 #[.int .i64 5, .int .i64 0] w fun e w' => e = .returned (.int .i64 2) ∧ w' = w := by
  have hi := kindIdx_5
  go_enter Tryz.func39, Tryz.ntmps39
  go_wp2
  go_ret
  exact ⟨rfl, rfl⟩
theorem kind_5_1 (w : World) : Calls Tryz.prog 39 #[.int .i64 5, .int .i64 1] w fun e w' => e = .returned (.int .i64 2) ∧ w' = w := by
  have hi := kindIdx_5
  go_enter Tryz.func39, Tryz.ntmps39
  go_wp2
  go_ret
  exact ⟨rfl, rfl⟩
theorem kind_5_2 (w : World) : Calls Tryz.prog 39 #[.int .i64 5, .int .i64 2] w fun e w' => e = .returned (.int .i64 0) ∧ w' = w := by
  have hi := kindIdx_5
  go_enter Tryz.func39, Tryz.ntmps39
  go_wp2
  go_ret
  exact ⟨rfl, rfl⟩
theorem kind_5_3 (w : World) : Calls Tryz.prog 39 #[.int .i64 5, .int .i64 3] w fun e w' => e = .returned (.int .i64 0) ∧ w' = w := by
  have hi := kindIdx_5
  go_enter Tryz.func39, Tryz.ntmps39
  go_wp2
  go_ret
  exact ⟨rfl, rfl⟩
theorem kind_6_0 (w : World) : Calls Tryz.prog 39 #[.int .i64 6, .int .i64 0] w fun e w' => e = .returned (.int .i64 1) ∧ w' = w := by
  have hi := kindIdx_6
  go_enter Tryz.func39, Tryz.ntmps39
  go_wp2
  go_ret
  exact ⟨rfl, rfl⟩
theorem kind_6_1 (w : World) : Calls Tryz.prog 39 #[.int .i64 6, .int .i64 1] w fun e w' => e = .returned (.int .i64 3) ∧ w' = w := by
  have hi := kindIdx_6
  go_enter Tryz.func39, Tryz.ntmps39
  go_wp2
  go_ret
  exact ⟨rfl, rfl⟩
theorem kind_6_2 (w : World) : Calls Tryz.prog 39 #[.int .i64 6, .int .i64 2] w fun e w' => e = .returned (.int .i64 0) ∧ w' = w := by
  have hi := kindIdx_6
  go_enter Tryz.func39, Tryz.ntmps39
  go_wp2
  go_ret
  exact ⟨rfl, rfl⟩
theorem kind_6_3 (w : World) : Calls Tryz.prog 39 #[.int .i64 6, .int .i64 3] w fun e w' => e = .returned (.int .i64 0) ∧ w' = w := by
  have hi := kindIdx_6
  go_enter Tryz.func39, Tryz.ntmps39
  go_wp2
  go_ret
  exact ⟨rfl, rfl⟩
theorem kind_7_0 (w : World) : Calls Tryz.prog 39 #[.int .i64 7, .int .i64 0] w fun e w' => e = .returned (.int .i64 2) ∧ w' = w := by
  have hi := kindIdx_7
  go_enter Tryz.func39, Tryz.ntmps39
  go_wp2
  go_ret
  exact ⟨rfl, rfl⟩
theorem kind_7_1 (w : World) : Calls Tryz.prog 39 #[.int .i64 7, .int .i64 1] w fun e w' => e = .returned (.int .i64 2) ∧ w' = w := by
  have hi := kindIdx_7
  go_enter Tryz.func39, Tryz.ntmps39
  go_wp2
  go_ret
  exact ⟨rfl, rfl⟩
theorem kind_7_2 (w : World) : Calls Tryz.prog 39 #[.int .i64 7, .int .i64 2] w fun e w' => e = .returned (.int .i64 1) ∧ w' = w := by
  have hi := kindIdx_7
  go_enter Tryz.func39, Tryz.ntmps39
  go_wp2
  go_ret
  exact ⟨rfl, rfl⟩
theorem kind_7_3 (w : World) : Calls Tryz.prog 39 #[.int .i64 7, .int .i64 3] w fun e w' => e = .returned (.int .i64 0) ∧ w' = w := by
  have hi := kindIdx_7
  go_enter Tryz.func39, Tryz.ntmps39
  go_wp2
  go_ret
  exact ⟨rfl, rfl⟩
theorem kind_8_0 (w : World) : Calls Tryz.prog 39 #[.int .i64 8, .int .i64 0] w fun e w' => e = .returned (.int .i64 1) ∧ w' = w := by
  have hi := kindIdx_8
  go_enter Tryz.func39, Tryz.ntmps39
  go_wp2
  go_ret
  exact ⟨rfl, rfl⟩
theorem kind_8_1 (w : World) : Calls Tryz.prog 39 #[.int .i64 8, .int .i64 1] w fun e w' => e = .returned (.int .i64 1) ∧ w' = w := by
  have hi := kindIdx_8
  go_enter Tryz.func39, Tryz.ntmps39
  go_wp2
  go_ret
  exact ⟨rfl, rfl⟩
theorem kind_8_2 (w : World) : Calls Tryz.prog 39 #[.int .i64 8, .int .i64 2] w fun e w' => e = .returned (.int .i64 3) ∧ w' = w := by
  have hi := kindIdx_8
  go_enter Tryz.func39, Tryz.ntmps39
  go_wp2
  go_ret
  exact ⟨rfl, rfl⟩
theorem kind_8_3 (w : World) : Calls Tryz.prog 39 #[.int .i64 8, .int .i64 3] w fun e w' => e = .returned (.int .i64 1) ∧ w' = w := by
  have hi := kindIdx_8
  go_enter Tryz.func39, Tryz.ntmps39
  go_wp2
  go_ret
  exact ⟨rfl, rfl⟩
theorem dkind_any (i k : Nat) (hi : i < 9) (hk : k < 4) (w : World) : Calls Tryz.prog 39 #[.int .i64 i, .int .i64 k] w fun e w' => e = .returned (.int .i64 (kindAt i k)) ∧ w' = w := by
  match i, hi, k, hk with
  | 0, _, 0, _ => exact kind_0_0 w
  | 0, _, 1, _ => exact kind_0_1 w
  | 0, _, 2, _ => exact kind_0_2 w
  | 0, _, 3, _ => exact kind_0_3 w
  | 1, _, 0, _ => exact kind_1_0 w
  | 1, _, 1, _ => exact kind_1_1 w
  | 1, _, 2, _ => exact kind_1_2 w
  | 1, _, 3, _ => exact kind_1_3 w
  | 2, _, 0, _ => exact kind_2_0 w
  | 2, _, 1, _ => exact kind_2_1 w
  | 2, _, 2, _ => exact kind_2_2 w
  | 2, _, 3, _ => exact kind_2_3 w
  | 3, _, 0, _ => exact kind_3_0 w
  | 3, _, 1, _ => exact kind_3_1 w
  | 3, _, 2, _ => exact kind_3_2 w
  | 3, _, 3, _ => exact kind_3_3 w
  | 4, _, 0, _ => exact kind_4_0 w
  | 4, _, 1, _ => exact kind_4_1 w
  | 4, _, 2, _ => exact kind_4_2 w
  | 4, _, 3, _ => exact kind_4_3 w
  | 5, _, 0, _ => exact kind_5_0 w
  | 5, _, 1, _ => exact kind_5_1 w
  | 5, _, 2, _ => exact kind_5_2 w
  | 5, _, 3, _ => exact kind_5_3 w
  | 6, _, 0, _ => exact kind_6_0 w
  | 6, _, 1, _ => exact kind_6_1 w
  | 6, _, 2, _ => exact kind_6_2 w
  | 6, _, 3, _ => exact kind_6_3 w
  | 7, _, 0, _ => exact kind_7_0 w
  | 7, _, 1, _ => exact kind_7_1 w
  | 7, _, 2, _ => exact kind_7_2 w
  | 7, _, 3, _ => exact kind_7_3 w
  | 8, _, 0, _ => exact kind_8_0 w
  | 8, _, 1, _ => exact kind_8_1 w
  | 8, _, 2, _ => exact kind_8_2 w
  | 8, _, 3, _ => exact kind_8_3 w

end Go.Proofs.YtkogafponpjdnaaGreatDoor

/- The document's callNames, actionText. -/
namespace Go.Proofs.YtkogafponpjdnaaGreatDoor
open Go.RowKit Go.Sort

def namesA : Array Value := #[.string ⟨#[114, 101, 97, 100]⟩, .string ⟨#[119, 114, 105, 116, 101]⟩, .string ⟨#[111, 112, 101, 110]⟩, .string ⟨#[99, 108, 111, 115, 101]⟩, .string ⟨#[115, 116, 97, 116]⟩, .string ⟨#[114, 101, 110, 97, 109, 101]⟩, .string ⟨#[99, 111, 110, 110, 101, 99, 116]⟩, .string ⟨#[108, 105, 110, 107]⟩, .string ⟨#[115, 101, 110, 100]⟩]
set_option maxRecDepth 100000 in
theorem callNames_any (w : World) : Calls Tryz.prog 30 #[] w fun e w' => e = .returned (.agg namesA) ∧ Below w.heap.size w w' := by
  go_enter Tryz.func30, Tryz.ntmps30
  go_wp2_with (first | (refine wpList_buildTo rfl 81 _ rfl (some 1) rfl namesA (by kernel_rfl) ?_) | (refine wpList_store_row rfl 81 _ _ rfl w.heap.size namesA rfl rfl 81 _ (heap_alloc_new _ _) (by kernel_rfl) (by kernel_rfl) (by kernel_rfl) ?_))
  rw [World.setRow_alloc_new]
  exact bodyPost_ret (v := .agg namesA) (results_cell_row rfl _ _ w.heap.size 81 namesA (0, 0) _ rfl (heap_alloc_new _ _) Tryz.underlying81 rfl (by kernel_rfl)) rfl ⟨rfl, (Below.refl _ _).alloc (Nat.le_refl _) _⟩
theorem names_index (nr : Nat) (h : nr ≤ 8) (w : World) : (Instr.index 81 (.agg namesA) (.int .i64 nr)).run Tryz.prog w = .ok (.string (bs (nameOf nr))) w := by
  rcases nine h with rfl | rfl | rfl | rfl | rfl | rfl | rfl | rfl | rfl <;> kernel_rfl

set_option maxRecDepth 20000 in
theorem ractText_any (a : ACT) (h : actF a = 0) (w : World) : Calls Tryz.prog 29 #[actV a] w fun e w' => e = .returned (.string (bs (joinC 32 (actW a)))) ∧ Below w.heap.size w w' := by
  unfold actV
  rcases act_cases h with rfl | rfl | ⟨n, h1, h2, rfl⟩
  · go_enter Tryz.func29, Tryz.ntmps29
    go_wp2
    go_ret
    exact ⟨rfl, box_below _ _⟩
  · go_enter Tryz.func29, Tryz.ntmps29
    go_wp2
    go_ret
    exact ⟨rfl, box_below _ _⟩
  · have HD := digits_any n (by omega)
    have HE := hide (show bs [100, 101, 110, 121, 32] ++ bs (Lib.decDigits n) = bs (joinC 32 (actW ⟨2, n⟩)) by
      rw [bs_append]
      simp [actW, joinC, wDeny])
    obtain ⟨q, hq⟩ : ∃ q : ByteArray, q = ⟨(Lib.decDigits n).toArray⟩ := ⟨_, rfl⟩
    have hq' : q = bs (Lib.decDigits n) := hq
    rw [← hq] at HD
    rw [← hq'] at HE
    have hqs : q.size ≤ 20 := by rw [hq', bs_size]; exact nDigits_le20 n (by omega)
    clear hq hq' h
    simp only
    go_enter Tryz.func29, Tryz.ntmps29
    go_wp2_with (go_at_call 50; refine (HD _).mono ?_; rintro e w' ⟨rfl, hb⟩)
    go_ret
    exact ⟨by rw [← HE.out]; rfl, below_next (box_below _ _) hb⟩
end Go.Proofs.YtkogafponpjdnaaGreatDoor

/- The document's ruleOf: the laws. -/
namespace Go.Proofs.YtkogafponpjdnaaGreatDoor
open Go.RowKit Go.Sort

/-- The number of a name among the first i. -/
def nrTo (x : W8) : Nat → Int
  | 0 => -1
  | i + 1 => if nameW.getD i [] = x then (i : Int) else nrTo x i
theorem nrTo_nine (x : W8) : nrTo x 9 = findCall x := by
  by_cases h : x ∈ nameW
  · simp only [nameW, List.mem_cons, List.not_mem_nil, or_false] at h
    rcases h with rfl | rfl | rfl | rfl | rfl | rfl | rfl | rfl | rfl <;> decide
  · have h1 : ∀ i, i ≤ 9 → nrTo x i = -1 := by
      intro i
      induction i with
      | zero => exact fun _ => rfl
      | succ i ih =>
        intro hi
        unfold nrTo
        rw [if_neg, ih (by omega)]
        intro he
        refine h ?_
        rw [← he, List.getD_eq_getElem?_getD, List.getElem?_eq_getElem (by show i < 9; omega)]
        exact List.getElem_mem _
    rw [h1 9 (Nat.le_refl _)]
    unfold findCall
    rw [List.findIdx?_eq_none_iff.2 fun y hy => by
      simp only [beq_eq_false_iff_ne]
      intro e
      exact h (e ▸ hy)]
theorem nrTo_ok (x : W8) : ∀ i, i ≤ 9 → -1 ≤ nrTo x i ∧ nrTo x i ≤ 8
  | 0, _ => ⟨by show (-1 : Int) ≤ -1; omega, by show (-1 : Int) ≤ 8; omega⟩
  | i + 1, h => by
    unfold nrTo
    split
    · omega
    · exact nrTo_ok x i (by omega)
/-- Words in a row, from a place on. -/
def WordsAt (X : World) (b off : Nat) (ws : List W8) : Prop := ∀ i x, ws[i]? = some x → X.cell? ⟨b, off + i, none⟩ = some (.string (bs x))
theorem WordsAt.drop {X : World} {b off : Nat} {ws : List W8} (h : WordsAt X b off ws) (k : Nat) : WordsAt X b (off + k) (ws.drop k) := fun i x hi => by
  rw [List.getElem?_drop] at hi
  have := h (k + i) x hi
  rwa [show off + k + i = off + (k + i) by omega]
theorem WordsAt.strs {X : World} {b off : Nat} {ws : List W8} (h : WordsAt X b off ws) (hb : b < X.heap.size) : IsStrs (some ⟨b, off, none⟩) ws X := ⟨fun _ => ⟨b, off, rfl, hb, h⟩⟩
/-- The world in the midst of ruleOf, but for the conds' own row. -/
structure UX0 (w : World) (r5 b off : Nat) (ws : List W8) (nr : Int) (a : ACT) (sv : Value) (X : World) : Prop where
  below : Below w.heap.size w X
  res : X.heap[w.heap.size]? = some (.cells (ruleC 0 (.slice none 0 0) ⟨0, 0⟩) 65 (0, 0))
  row : X.heap[r5]? = some (.cells (ruleC nr sv a) 65 (0, 0))
  words : WordsAt X b off ws
  le : w.heap.size < r5 ∧ b < r5
structure UX (w : World) (r5 b off : Nat) (ws : List W8) (nr : Int) (cs : List CD) (a : ACT) (sv : Value) (X : World) : Prop where
  weak : UX0 w r5 b off ws nr a sv X
  own : X.ownsRow (r5 + 1) 69 9 sv cs.length (flatC cs)
theorem UX0.heap {w : World} {r5 b off : Nat} {ws : List W8} {nr : Int} {a : ACT} {sv : Value} {X Y : World} (h : UX0 w r5 b off ws nr a sv X) (ho : Y.os = X.os ∧ Y.tape = X.tape ∧ Y.output = X.output) (hs : X.heap.size ≤ Y.heap.size) (hb : ∀ k, k ≤ r5 → Y.heap[k]? = X.heap[k]?) : UX0 w r5 b off ws nr a sv Y := by
  have hl := h.le
  exact ⟨h.below.trans ⟨ho.1, ho.2.1, ho.2.2, hs, fun k hk => hb k (by omega)⟩, (hb _ (by omega)).trans h.res, (hb r5 (Nat.le_refl _)).trans h.row, fun i x hi => (cell_heap (hb b (by omega)) _).trans (h.words i x hi), h.le⟩
theorem UX0.lt {w : World} {r5 b off : Nat} {ws : List W8} {nr : Int} {a : ACT} {sv : Value} {X : World} (h : UX0 w r5 b off ws nr a sv X) : r5 < X.heap.size := (Array.getElem?_eq_some_iff.1 h.row).1
theorem UX.on {w : World} {r5 b off : Nat} {ws : List W8} {nr : Int} {cs : List CD} {a : ACT} {sv : Value} {X Y : World} (h : UX w r5 b off ws nr cs a sv X) (hb : Below X.heap.size X Y) : UX w r5 b off ws nr cs a sv Y :=
  ⟨h.weak.heap ⟨hb.os, hb.tape, hb.output⟩ hb.size fun k hk => hb.block k (by have := h.weak.lt; omega), h.own.kept (row := none) ⟨hb.os, hb.tape, hb.output, hb.size, fun k hk _ => hb.block k hk⟩ (by
    cases hv : sv.ownBlock with
    | none => exact .inl rfl
    | some k => exact .inr (by simp))⟩
theorem UX0.grown {w : World} {r5 b off : Nat} {ws : List W8} {nr : Int} {a : ACT} {sv : Value} {X Y : World} {row : Option Nat} (h : UX0 w r5 b off ws nr a sv X) (o : Obj) (hg : (X.alloc o).grownBy Y row) (hr : ∀ k, row = some k → r5 + 1 ≤ k) : UX0 w r5 b off ws nr a sv Y := by
  have h4 := h.lt
  exact h.heap ⟨hg.os, hg.tape, hg.output⟩ (Nat.le_trans (box_below X o).size hg.size) fun k hk => (hg.block k (by rw [World.size_alloc]; omega) (fun e => by have := hr k e.symm; omega)).trans ((box_below X o).block k (by omega))
theorem UX0.set {w : World} {r5 b off : Nat} {ws : List W8} {nr nr' : Int} {a a' : ACT} {sv sv' : Value} {X : World} (h : UX0 w r5 b off ws nr a sv X) (j : Nat) (v : Value) (hc : (ruleC nr sv a).setIfInBounds j v = ruleC nr' sv' a') : UX0 w r5 b off ws nr' a' sv' (X.setCell ⟨r5, j, none⟩ v) := by
  have hl := h.le
  rw [setCell_eq_setRow _ _ j _ _ _ _ h.row, hc]
  have hb : ∀ k, k ≠ r5 → (X.setRow r5 (ruleC nr' sv' a')).heap[k]? = X.heap[k]? := fun k hk => row_heap X r5 k _ hk
  exact ⟨h.below.trans ⟨rfl, rfl, rfl, by rw [row_size]; exact Nat.le_refl _, fun k hk => hb k (by omega)⟩, (hb _ (by omega)).trans h.res, setRow_heap _ _ _ _ _ _ h.row, fun i x hi => (cell_heap (hb b (by omega)) _).trans (h.words i x hi), h.le⟩
theorem UX.setNr {w : World} {r5 b off : Nat} {ws : List W8} {nr : Int} {cs : List CD} {a : ACT} {sv : Value} {X : World} (h : UX w r5 b off ws nr cs a sv X) (nr' : Int) : UX w r5 b off ws nr' cs a sv (X.setCell ⟨r5, 0, none⟩ (.int .i64 nr')) :=
  ⟨h.weak.set 0 _ rfl, own_but (r := r5) h.own (But.set r5 0 X _) (by omega)⟩
theorem UX.setOwn {w : World} {r5 b off : Nat} {ws : List W8} {nr : Int} {cs' : List CD} {a : ACT} {sv sv' : Value} {X : World} (h : UX0 w r5 b off ws nr a sv X) (ho : X.ownsRow (r5 + 1) 69 9 sv' cs'.length (flatC cs')) : UX w r5 b off ws nr cs' a sv' (X.setCell ⟨r5, 1, none⟩ sv') :=
  ⟨h.set 1 _ rfl, own_but (r := r5) ho (But.set r5 1 X _) (by omega)⟩
theorem UX.cell {w : World} {r5 b off : Nat} {ws : List W8} {nr : Int} {cs : List CD} {a : ACT} {sv : Value} {X : World} (h : UX w r5 b off ws nr cs a sv X) (j : Nat) : X.cell? ⟨r5, j, none⟩ = (ruleC nr sv a)[j]? := cell_of_row _ _ j _ _ _ h.weak.row
theorem UX.fro {w : World} {r5 b off : Nat} {ws : List W8} {nr : Int} {cs : List CD} {a : ACT} {sv : Value} {X : World} (h : UX w r5 b off ws nr cs a sv X) (j : Nat) : X.frozen? ⟨r5, j, none⟩ = false := frozen_of_row _ _ j _ _ h.weak.row
theorem UX.done {w : World} {r5 b off : Nat} {ws : List W8} {nr : Int} {cs : List CD} {a : ACT} {sv : Value} {X : World} (h : UX w r5 b off ws nr cs a sv X) (v : Array Value) : Below w.heap.size w (X.setRow w.heap.size v) ∧ (X.setRow w.heap.size v).ownsRow (r5 + 1) 69 9 sv cs.length (flatC cs) := by
  have hl := h.weak.le
  have hs := h.weak.below.size
  have hb1 : But w.heap.size X (X.setRow w.heap.size v) := ⟨rfl, rfl, rfl, by rw [row_size]; exact Nat.le_refl _, fun k _ hn => row_heap X w.heap.size k _ hn⟩
  exact ⟨hb1.below h.weak.below (Nat.le_refl _) hs, own_but h.own hb1 (by omega)⟩
/-- What ruleOf hands back. -/
def RuleRes (o : Option RL) (e : Ending) (w w' : World) : Prop := match o with
  | some r => ∃ oa cap, e = .returned (.tuple #[.agg (ruleC r.nr (.slice oa r.conds.length cap) r.act), .bool true]) ∧ r.conds.length ≤ cap ∧ cap ≤ maxLen ∧ IsConds oa r.conds w' ∧ ∀ b off, oa = some ⟨b, off, none⟩ → w.heap.size ≤ b ∧ b < w'.heap.size
  | none => ∃ (nr : Int) (a : ACT) (oa : Option Addr) (n cap : Nat), n ≤ cap ∧ cap ≤ maxLen ∧ e = .returned (.tuple #[.agg (ruleC nr (.slice oa n cap) a), .bool false])
theorem results_rule {fn : Func} {p u : Tmp} (h : fn.results = #[.cell p 65, .tmp u]) (tmps : Array Value) (w : World) (g : Nat) (cs : Array Value) (v : Value) (hs : cs.size = 4)
    (hp : tmps.getD p undef = .pointer (some ⟨g, 0, none⟩)) (hv : tmps.getD u undef = v) (hg : w.heap[g]? = some (.cells cs 65 (0, 0))) :
    (results fn tmps).run Tryz.prog w = .ok (.tuple #[.agg cs, v]) w := by
  rw [results_cell_tmp h, hp, hv]
  have hl := run_loadVar_row (P := Tryz.prog) w g 65 65 cs (0, 0) _ hg Tryz.underlying65 rfl (by rw [hs]; exact size_rule)
  simp [asAddr, hl]
theorem docConds_fuel : ∀ (n m : Nat) (f : Bool) (l : List W8), l.length ≤ n → l.length ≤ m → docConds n f l = docConds m f l
  | n, m, f, [], _, _ => by cases n <;> cases m <;> simp [docConds]
  | 0, m, f, w :: r, hn, _ => by simp at hn
  | n + 1, 0, f, w :: r, _, hm => by simp at hm
  | n + 1, m + 1, f, w :: r, hn, hm => by
    rw [docConds, docConds]
    cases hc : docCond r with
    | none => rfl
    | some ck =>
      obtain ⟨c, k⟩ := ck
      simp only
      rw [docConds_fuel n m false (r.drop k) (by rw [List.length_drop]; simp at hn; omega) (by rw [List.length_drop]; simp at hm; omega)]
end Go.Proofs.YtkogafponpjdnaaGreatDoor
