/- addr.split: the numbers of a net's text. -/
import Derived.Test.YtkeljbekbgabpaaDoorANum
import Derived.Test.YtkeljbekbgabpaaDoorANet
import Derived.Laws.ResultCell
import Derived.Laws.CopyOwn
namespace Go.Proofs.YtkeljbekbgabpaaDoor
open Go.RowKit

/-- Seven numbers in a row of cells, noughts behind those that are there. -/
def padN (ns : List Nat) : Array Value := #[.int .i64 (ns.getD 0 0), .int .i64 (ns.getD 1 0), .int .i64 (ns.getD 2 0), .int .i64 (ns.getD 3 0), .int .i64 (ns.getD 4 0), .int .i64 (ns.getD 5 0), .int .i64 (ns.getD 6 0)]

def signsB : ByteArray := ⟨#[46, 46, 46, 47, 58, 45]⟩

theorem signs_extract (k : Nat) (hk : k < 6) : (⟨#[46, 46, 46, 47, 58, 45]⟩ : ByteArray).extract k (k + 1) = ⟨#[signsL.getD k 0]⟩ := by
  match k, hk with
  | 0, _ => rfl
  | 1, _ => rfl
  | 2, _ => rfl
  | 3, _ => rfl
  | 4, _ => rfl
  | 5, _ => rfl
theorem signs_drop (k : Nat) (hk : k < 6) : signsL.drop k = signsL.getD k 0 :: signsL.drop (k + 1) := by
  match k, hk with
  | 0, _ => rfl
  | 1, _ => rfl
  | 2, _ => rfl
  | 3, _ => rfl
  | 4, _ => rfl
  | 5, _ => rfl

theorem cutS_hit (s : ByteArray) (k : Nat) (hk : k < 6) (i : Nat) (hi : Lib.indexByte s.data.toList (signsL.getD k 0) = i) (hs : s.size < 4294967296) (w : World) :
    Calls Tryd.prog 33 #[.string s, .string ((⟨#[46, 46, 46, 47, 58, 45]⟩ : ByteArray).extract k (k + 1))] w fun e w' => e = .returned (.tuple #[.string (s.extract 0 i), .string (s.extract (i + 1) s.size), .bool true]) ∧ ∃ n, w' = w.drewN n := by
  rw [signs_extract k hk]
  exact cut_hit s _ i hi hs w
theorem cutS_miss (s : ByteArray) (k : Nat) (hk : k < 6) (hi : Lib.indexByte s.data.toList (signsL.getD k 0) < 0) (w : World) :
    Calls Tryd.prog 33 #[.string s, .string ((⟨#[46, 46, 46, 47, 58, 45]⟩ : ByteArray).extract k (k + 1))] w fun e w' => e = .returned (.tuple #[.string s, .string ⟨#[]⟩, .bool false]) ∧ ∃ n, w' = w.drewN n := by
  rw [signs_extract k hk]
  exact cut_miss s _ hi w
theorem number_some (s : ByteArray) (n : Nat) (h : numR s.data.toList = some n) (hs : s.size < 4294967296) (w : World) : Calls Tryd.prog 34 #[.string s] w fun e w' => e = .returned (.tuple #[.int .i64 n, .bool true]) ∧ ∃ n, w' = w.drewN n :=
  (number_any s hs w).mono fun e w' ⟨he, hw⟩ => ⟨by rw [he, h]; rfl, hw⟩
theorem number_none (s : ByteArray) (h : numR s.data.toList = none) (hs : s.size < 4294967296) (w : World) : Calls Tryd.prog 34 #[.string s] w fun e w' => e = .returned (.tuple #[.int .i64 0, .bool false]) ∧ ∃ n, w' = w.drewN n :=
  (number_any s hs w).mono fun e w' ⟨he, hw⟩ => ⟨by rw [he, h]; rfl, hw⟩
theorem number_opt (s : ByteArray) (hs : s.size < 4294967296) (w : World) : Calls Tryd.prog 34 #[.string s] w fun e w' => (∃ (a : Int) (b : Bool), e = .returned (.tuple #[.int .i64 a, .bool b])) ∧ ∃ n, w' = w.drewN n :=
  (number_any s hs w).mono fun e w' ⟨he, hw⟩ => ⟨by cases h : numR s.data.toList <;> rw [he, h] <;> exact ⟨_, _, rfl⟩, hw⟩

/-- The world in the midst of split: the numbers' block, some draws. -/
def SW (w : World) (ns : List Nat) (m : Nat) : World := ((w.alloc (.cells (padN []) 61)).alloc (.cells (padN ns) 61)).drewN m
theorem SW_heap (w : World) (ns : List Nat) (m : Nat) : (SW w ns m).heap[w.heap.size + 1]? = some (.cells (padN ns) 61 (0, 0)) := heap_alloc2_new w _ _
theorem SW_heap0 (w : World) (ns : List Nat) (m : Nat) : (SW w ns m).heap[w.heap.size]? = some (.cells (padN []) 61 (0, 0)) := heap_alloc2_old w _ _
theorem SW_drewN (w : World) (ns : List Nat) (m n : Nat) : (SW w ns m).drewN n = SW w ns (m + n) := by unfold SW; rw [World.drewN_drewN]
theorem SW_start (w : World) : SW w [] 0 = (w.alloc (.cells (padN []) 61)).alloc (.cells (padN []) 61) := World.drewN_zero _
theorem SW_below (w : World) (ns : List Nat) (m : Nat) : Below w.heap.size w (SW w ns m) := below_drewN' (((Below.refl _ _).alloc (Nat.le_refl _) _).alloc (by simp) _) m
theorem padN_get (ns : List Nat) (k : Nat) (hk : k < 7) : (padN ns)[k]? = some (.int .i64 (ns.getD k 0)) := by
  match k, hk with
  | 0, _ => rfl
  | 1, _ => rfl
  | 2, _ => rfl
  | 3, _ => rfl
  | 4, _ => rfl
  | 5, _ => rfl
  | 6, _ => rfl
theorem getD_app (ns : List Nat) (n j : Nat) : (ns ++ [n]).getD j 0 = if j = ns.length then n else ns.getD j 0 := by
  rw [List.getD_eq_getElem?_getD, List.getD_eq_getElem?_getD, List.getElem?_append]
  by_cases h : j < ns.length
  · rw [if_pos h, if_neg (by omega)]
  · rw [if_neg h]
    by_cases h2 : j = ns.length
    · rw [if_pos h2, h2]; simp
    · rw [if_neg h2, List.getElem?_eq_none (by simp; omega), List.getElem?_eq_none (by omega)]
theorem padN_set (ns : List Nat) (n k : Nat) (hl : ns.length = k) (hk : k < 7) : (padN ns).setIfInBounds k (.int .i64 n) = padN (ns ++ [n]) := by
  subst hl
  apply Array.ext_getElem?
  intro j
  rw [Array.getElem?_setIfInBounds]
  by_cases hj : j < 7
  · rw [padN_get _ j hj, padN_get _ j hj, getD_app]
    by_cases h : j = ns.length
    · rw [if_pos h, if_pos h.symm, if_pos (by show ns.length < 7; exact hk)]
    · rw [if_neg h, if_neg (fun e => h e.symm)]
  · rw [if_neg (by omega), Array.getElem?_eq_none (by show 7 ≤ j; omega), Array.getElem?_eq_none (by show 7 ≤ j; omega)]
theorem SW_cell (w : World) (ns : List Nat) (m k : Nat) (hk : k < 7) : (SW w ns m).cell? ⟨w.heap.size + 1, k, none⟩ = some (.int .i64 (ns.getD k 0)) := by
  rw [cell_of_row _ _ k _ _ _ (SW_heap w ns m), padN_get ns k hk]
theorem SW_frozen (w : World) (ns : List Nat) (m k : Nat) : (SW w ns m).frozen? ⟨w.heap.size + 1, k, none⟩ = false := frozen_of_row _ _ k _ _ (SW_heap w ns m)
theorem SW_set (w : World) (ns : List Nat) (m n k : Nat) (hl : ns.length = k) (hk : k < 7) : (SW w ns m).setCell ⟨w.heap.size + 1, k, none⟩ (.int .i64 n) = SW w (ns ++ [n]) m := by
  rw [setCell_eq_setRow _ _ k _ _ _ _ (SW_heap w ns m), padN_set ns n k hl hk]
  have h := World.setRow_alloc_new (w.alloc (.cells (padN []) 61)) (padN ns) (padN (ns ++ [n])) 61
  rw [show (w.alloc (.cells (padN []) 61)).heap.size = w.heap.size + 1 by simp] at h
  exact congrArg (World.drewN · m) h

theorem SW_row (w : World) (ns ns' : List Nat) (m k : Nat) (v : Value) (h : (padN ns).setIfInBounds k v = padN ns') : (SW w ns m).setCell ⟨w.heap.size + 1, k, none⟩ v = SW w ns' m := by
  rw [setCell_eq_setRow _ _ k _ _ _ _ (SW_heap w ns m), h]
  have h := World.setRow_alloc_new (w.alloc (.cells (padN []) 61)) (padN ns) (padN ns') 61
  rw [show (w.alloc (.cells (padN []) 61)).heap.size = w.heap.size + 1 by simp] at h
  exact congrArg (World.drewN · m) h
theorem size_arr7 : (Tryd.prog.info? 61).map (·.size) = some 7 := by kernel_rfl
theorem padN_one (ns : List Nat) : (padN ns).all (·.oneCell') = true := by simp [padN, Value.oneCell']
theorem wpList_load_pad {ops : Array Oper} {rest : List Oper} {o : Oper} {a : Act} {Q : Exit → Act → World → Prop} (hgd : o.guard = none) (x : Operand) (ho : o.op = .load 61 x) (w : World) (ns : List Nat) (m : Nat)
    (hx : a.eval x = .pointer (some ⟨w.heap.size + 1, 0, none⟩)) (h : wpList Tryd.prog ops Q rest (a.put o.dst (.agg (padN ns))) (SW w ns m)) : wpList Tryd.prog ops Q (o :: rest) a (SW w ns m) :=
  wpList_load_row hgd 61 x ho _ hx 61 (padN ns) (0, 0) _ (SW_heap w ns m) Tryd.underlying61 rfl size_arr7 h
theorem wpList_store_pad {ops : Array Oper} {rest : List Oper} {o : Oper} {a : Act} {Q : Exit → Act → World → Prop} (hgd : o.guard = none) (x y : Operand) (ho : o.op = .store 61 x y) (w : World) (ns : List Nat) (m : Nat)
    (hx : a.eval x = .pointer (some ⟨w.heap.size, 0, none⟩)) (hy : a.eval y = .agg (padN ns)) (h : wpList Tryd.prog ops Q rest (a.put o.dst undef) ((SW w ns m).setRow w.heap.size (padN ns))) : wpList Tryd.prog ops Q (o :: rest) a (SW w ns m) :=
  wpList_store_row hgd 61 x y ho _ (padN ns) hx hy 61 (padN []) (SW_heap0 w ns m) size_arr7 rfl (padN_one ns) h
/-- Numbers and a word handed back, the numbers out of their block. -/
theorem results_pad {fn : Func} {p u : Tmp} (h : fn.results = #[.cell p 61, .tmp u]) (tmps : Array Value) (w : World) (ns : List Nat) (m : Nat) (v : Value)
    (hp : tmps.getD p undef = .pointer (some ⟨w.heap.size, 0, none⟩)) (hv : tmps.getD u undef = v) :
    (results fn tmps).run Tryd.prog ((SW w ns m).setRow w.heap.size (padN ns)) = .ok (.tuple #[.agg (padN ns), v]) ((SW w ns m).setRow w.heap.size (padN ns)) := by
  rw [results_cell_tmp h, hp, hv]
  have hl := run_loadVar_row (P := Tryd.prog) ((SW w ns m).setRow w.heap.size (padN ns)) w.heap.size 61 61 (padN ns) (0, 0) _ (setRow_heap _ _ _ _ _ _ (SW_heap0 w ns m)) Tryd.underlying61 rfl size_arr7
  simp [asAddr, hl]
theorem SWr_below (w : World) (ns : List Nat) (m : Nat) : Below w.heap.size w ((SW w ns m).setRow w.heap.size (padN ns)) := below_setRow (SW_below w ns m) (Nat.le_refl _) _
attribute [local go_sem] SW_drewN

theorem split_any (s : ByteArray) (hs : s.size < 4294967296) (w : World) :
    Calls Tryd.prog 29 #[.string s] w fun e w' => (∃ ns ok, e = .returned (.tuple #[.agg (padN ns), .bool ok]) ∧ (splitN signsL s.data.toList = if ok = true then some ns else none)) ∧ Below w.heap.size w w' := by
  go_enter Tryd.func29, Tryd.ntmps29
  go_wp2
  go_loopw [13, 0] (fun i x w' => ∃ (k m : Nat) (ns : List Nat) (cur : ByteArray), k ≤ 6 ∧ i = .int .i64 k ∧ x = .string cur ∧ cur.size < 4294967296 ∧ ns.length = k ∧ w' = SW w ns m ∧ Hid (splitN signsL s.data.toList = (splitN (signsL.drop k) cur.data.toList).map fun r => ns ++ r)) (fun i _ _ => 6 - (intOf i).toNat)
  case atStart => exact ⟨0, 0, [], s, by omega, rfl, rfl, hs, rfl, (SW_start w).symm, hide (by rw [List.drop_zero]; simp)⟩
  case round =>
    obtain ⟨k, m, ns, cur, hk, rfl, rfl, hcur, hl, rfl, HS⟩ := hrel
    have hcell := SW_cell w ns
    have hfro := SW_frozen w ns
    by_cases hlt : k < 6
    · have HD := hide (signs_drop k hlt)
      by_cases hi : Lib.indexByte cur.data.toList (signsL.getD k 0) < 0
      · have HV := hide (show splitN signsL s.data.toList = none by rw [HS.out, HD.out, splitN, if_pos hi]; rfl)
        have HI := hide hi
        clear hi
        go_wp2_with (first
          | (go_at_call 33; refine (cutS_miss cur k hlt HI.out _).mono ?_; rintro e w' ⟨rfl, n1, rfl⟩)
          | (go_at_call 34; refine (number_opt cur hcur _).mono ?_; rintro e w' ⟨⟨a, b, rfl⟩, n2, rfl⟩)
          | (refine wpList_load_pad rfl _ rfl w ns _ rfl ?_)
          | (refine wpList_store_pad rfl _ _ rfl w ns _ rfl rfl ?_)
          | (refine bodyPost_ret (results_pad rfl _ w ns _ (.bool false) rfl rfl) rfl ⟨⟨ns, false, rfl, ?_⟩, SWr_below _ _ _⟩; rw [HV.out]; rfl))
      · obtain ⟨i, hi'⟩ : ∃ i : Nat, Lib.indexByte cur.data.toList (signsL.getD k 0) = i := ⟨(Lib.indexByte cur.data.toList (signsL.getD k 0)).toNat, by omega⟩
        have HI := hide hi'
        have HX : splitN (signsL.drop k) cur.data.toList = (numR (cur.extract 0 i).data.toList).bind fun n => (splitN (signsL.drop (k + 1)) (cur.extract (i + 1) cur.size).data.toList).map fun r => n :: r := by
          rw [HD.out, splitN, if_neg hi, hi', Int.toNat_natCast, Lib.extract_data, Lib.extract_data, List.drop_zero, Nat.sub_zero]
          rw [List.take_of_length_le (l := cur.data.toList.drop (i + 1)) (by rw [List.length_drop, ← Lib.size_eq]; exact Nat.le_refl _)]
        have HX := hide HX
        clear hi hi'
        have hc1 : (cur.extract 0 i).size < 4294967296 := by simp; omega
        have hc2 : (cur.extract (i + 1) cur.size).size < 4294967296 := by simp; omega
        cases hn : numR (cur.extract 0 i).data.toList with
        | none =>
          have HV := hide (show splitN signsL s.data.toList = none by rw [HS.out, HX.out, hn]; rfl)
          have HN := hide hn
          clear hn
          go_wp2_with (first
            | (go_at_call 33; refine (cutS_hit cur k hlt i HI.out hcur _).mono ?_; rintro e w' ⟨rfl, n1, rfl⟩)
            | (go_at_call 34; refine (number_none _ HN.out hc1 _).mono ?_; rintro e w' ⟨rfl, n2, rfl⟩)
            | (refine wpList_load_pad rfl _ rfl w ns _ rfl ?_)
            | (refine wpList_store_pad rfl _ _ rfl w ns _ rfl rfl ?_)
            | (refine bodyPost_ret (results_pad rfl _ w ns _ (.bool false) rfl rfl) rfl ⟨⟨ns, false, rfl, ?_⟩, SWr_below _ _ _⟩; rw [HV.out]; rfl))
        | some n =>
          have HV := hide (show splitN signsL s.data.toList = (splitN (signsL.drop (k + 1)) (cur.extract (i + 1) cur.size).data.toList).map fun r => (ns ++ [n]) ++ r by
            rw [HS.out, HX.out, hn, Option.bind_some, Option.map_map]
            congr 1
            funext r
            simp)
          have HN := hide hn
          clear hn
          have hset := SW_set w ns
          go_wp2_with (first
            | (go_at_call 33; refine (cutS_hit cur k hlt i HI.out hcur _).mono ?_; rintro e w' ⟨rfl, n1, rfl⟩)
            | (go_at_call 34; refine (number_some _ n HN.out hc1 _).mono ?_; rintro e w' ⟨rfl, n2, rfl⟩))
          go_round
          case rel => exact ⟨k + 1, _, ns ++ [n], _, by omega, by go_num, rfl, hc2, by rw [List.length_append, hl]; rfl, rfl, HV⟩
          case measure => simp [intOf]; omega
    · obtain rfl : k = 6 := by omega
      have HX := hide (show splitN (signsL.drop 6) cur.data.toList = (numR cur.data.toList).map fun n => [n] from rfl)
      have hset := SW_set w ns
      cases hn : numR cur.data.toList with
      | none =>
        have HV := hide (show splitN signsL s.data.toList = none by rw [HS.out, HX.out, hn]; rfl)
        have HN := hide hn
        clear hn hset
        have hset : ∀ m, (SW w ns m).setCell ⟨w.heap.size + 1, 6, none⟩ (.int .i64 0) = SW w (ns ++ [0]) m := fun m => SW_set w ns m 0 6 hl (by omega)
        go_wp2_with (first
          | (go_at_call 34; refine (number_none _ HN.out hcur _).mono ?_; rintro e w' ⟨rfl, n2, rfl⟩)
          | (refine wpList_load_pad rfl _ rfl w _ _ rfl ?_)
          | (refine wpList_store_pad rfl _ _ rfl w _ _ rfl rfl ?_)
          | (refine bodyPost_ret (results_pad rfl _ w _ _ (.bool false) rfl rfl) rfl ⟨⟨_, false, rfl, ?_⟩, SWr_below _ _ _⟩; rw [HV.out]; rfl))
      | some n =>
        have HV := hide (show splitN signsL s.data.toList = some (ns ++ [n]) by rw [HS.out, HX.out, hn]; rfl)
        have HN := hide hn
        clear hn
        go_wp2_with (first
          | (go_at_call 34; refine (number_some _ n HN.out hcur _).mono ?_; rintro e w' ⟨rfl, n2, rfl⟩)
          | (refine wpList_load_pad rfl _ rfl w _ _ rfl ?_)
          | (refine wpList_store_pad rfl _ _ rfl w _ _ rfl rfl ?_)
          | (refine bodyPost_ret (results_pad rfl _ w _ _ (.bool true) rfl rfl) rfl ⟨⟨_, true, rfl, ?_⟩, SWr_below _ _ _⟩; rw [HV.out]; rfl))
end Go.Proofs.YtkeljbekbgabpaaDoor
