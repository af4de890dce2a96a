/- Small functions of package ward. -/
import Derived.Test.YtklibmijiecbfaaGreatK13
import Derived.Test.YtklibmijiecbfaaGreatK14
import Derived.Test.YtklibmijiecbfaaGreatK3
import Derived.Test.YtklibmijiecbfaaGreatK7
import Derived.Deep.RegionLaw
import Derived.Deep.DeepCutAuto
import Derived.Deep.AppendLies
import Derived.Deep.MidRow
namespace Go.Proofs.YtklibmijiecbfaaGreat
open Go.RowKit Mm

theorem isThread_any (n : Int) (w : World) : Calls Tryz.prog 49 #[.int .i64 n] w fun e w' => e = .returned (.bool (decide (0 ≤ n) && decide (n < 3))) ∧ w' = w := by
 by_cases h : 0 ≤ n
 ·
  go_enter Tryz.func49, Tryz.ntmps49
  go_wp2
  go_ret
  exact ⟨by simp [h], rfl⟩
 ·
  have hn : n < 0 := by omega
  go_enter Tryz.func49, Tryz.ntmps49
  go_wp2
  go_ret
  refine ⟨?_, rfl⟩
  rw [show decide (0 ≤ n) = false from decide_eq_false (by omega)]
  rfl
theorem isCall_any (c : KL) (w : World) : Calls Tryz.prog 59 #[klV c] w fun e w' => e = .returned (.bool (decide (c.nr < 9))) ∧ Below w.heap.size w w' := by
 unfold klV klC
 by_cases h : c.nr < 9
 ·
  have h1 : (c.nr : Int) < 9 := by omega
  have HV := hide (decide_eq_true h)
  clear h
  go_enter Tryz.func59, Tryz.ntmps59
  go_wp2
  go_ret
  rw [HV.out]
  exact ⟨rfl, box_below _ _⟩
 ·
  have h1 : ¬ (c.nr : Int) < 9 := by omega
  have HV := hide (decide_eq_false h)
  clear h
  go_enter Tryz.func59, Tryz.ntmps59
  go_wp2
  go_ret
  rw [HV.out]
  exact ⟨rfl, box_below _ _⟩
def errnoN (f : Nat) : Nat := if f = 5 then 14 else if f = 6 then 36 else if f = 9 then 12 else 22
set_option maxRecDepth 20000 in
theorem errnoOf_any (f : Nat) (w : World) : Calls Tryz.prog 82 #[.iface 82 (.int .i64 (f : Int))] w fun e w' => e = .returned (.int .i64 (errnoN f : Nat)) ∧ w' = w := by
 have H5 := fun w => errIs_any (f : Int) 5 w
 have H6 := fun w => errIs_any (f : Int) 6 w
 have H9 := fun w => errIs_any (f : Int) 9 w
 obtain ⟨z, hz⟩ : ∃ z : Int, z = f := ⟨_, rfl⟩
 rw [← hz] at H5 H6 H9 ⊢
 by_cases h5 : f = 5
 ·
  have b5 : (z == 5) = true := by rw [hz]; simp; omega
  have HV := hide (show errnoN f = 14 from if_pos h5)
  rw [b5] at H5
  clear hz h5 b5 H6 H9
  go_enter Tryz.func82, Tryz.ntmps82
  go_wp2_with fail
  refine (H5 _).mono ?_
  rintro e w' ⟨rfl, rfl⟩
  go_wp2
  go_ret
  rw [HV.out]
  exact ⟨rfl, rfl⟩
 have b5 : (z == 5) = false := by rw [hz]; simp; omega
 rw [b5] at H5
 clear b5
 by_cases h6 : f = 6
 ·
  have b6 : (z == 6) = true := by rw [hz]; simp; omega
  have HV := hide (show errnoN f = 36 by unfold errnoN; rw [if_neg h5, if_pos h6])
  rw [b6] at H6
  clear hz h5 h6 b6 H9
  go_enter Tryz.func82, Tryz.ntmps82
  go_wp2_with fail
  refine (H5 _).mono ?_
  rintro e w' ⟨rfl, rfl⟩
  go_wp2_with fail
  refine (H6 _).mono ?_
  rintro e w' ⟨rfl, rfl⟩
  go_wp2
  go_ret
  rw [HV.out]
  exact ⟨rfl, rfl⟩
 have b6 : (z == 6) = false := by rw [hz]; simp; omega
 rw [b6] at H6
 clear b6
 by_cases h9 : f = 9
 ·
  have b9 : (z == 9) = true := by rw [hz]; simp; omega
  have HV := hide (show errnoN f = 12 by unfold errnoN; rw [if_neg h5, if_neg h6, if_pos h9])
  rw [b9] at H9
  clear hz h5 h6 h9 b9
  go_enter Tryz.func82, Tryz.ntmps82
  go_wp2_with fail
  refine (H5 _).mono ?_
  rintro e w' ⟨rfl, rfl⟩
  go_wp2_with fail
  refine (H6 _).mono ?_
  rintro e w' ⟨rfl, rfl⟩
  go_wp2_with fail
  refine (H9 _).mono ?_
  rintro e w' ⟨rfl, rfl⟩
  go_wp2
  go_ret
  rw [HV.out]
  exact ⟨rfl, rfl⟩
 have b9 : (z == 9) = false := by rw [hz]; simp; omega
 have HV := hide (show errnoN f = 22 by unfold errnoN; rw [if_neg h5, if_neg h6, if_neg h9])
 rw [b9] at H9
 clear hz h5 h6 h9 b9
 go_enter Tryz.func82, Tryz.ntmps82
 go_wp2_with fail
 refine (H5 _).mono ?_
 rintro e w' ⟨rfl, rfl⟩
 go_wp2_with fail
 refine (H6 _).mono ?_
 rintro e w' ⟨rfl, rfl⟩
 go_wp2_with fail
 refine (H9 _).mono ?_
 rintro e w' ⟨rfl, rfl⟩
 go_wp2
 go_ret
 rw [HV.out]
 exact ⟨rfl, rfl⟩
theorem suffix_zero (l : W8) : Lib.hasSuffix l [0] = (l.getLast? == some 0) := by
 unfold Lib.hasSuffix
 cases h : l.getLast? with
 | none =>
  rw [List.getLast?_eq_none_iff] at h
  subst h
  rfl
 | some x =>
  obtain ⟨r, rfl⟩ := List.getLast?_eq_some_iff.1 h
  by_cases hx : x = 0
  ·
   subst hx
   simp
  ·
   have : ([0] : W8).isSuffixOf (r ++ [x]) = false := by
    rw [Bool.eq_false_iff]
    intro hc
    rw [List.isSuffixOf_iff_suffix] at hc
    obtain ⟨t, ht⟩ := hc
    have := congrArg List.getLast? ht
    simp at this
    exact hx this.symm
   rw [this]
   simp [hx]
theorem isWhole_any (k : Nat) (l : W8) (hl : l.length ≤ 9000) (w : World) : Calls Tryz.prog 55 #[.int .i64 k, .string (bs l)] w fun e w' => e = .returned (.bool (wholeB k l)) ∧ w' = w := by
 have HH := Tryz.strings_HasSuffix (bs l) ⟨#[0]⟩ w (by rw [bs_size]; omega)
 rw [bs_data, show (⟨#[0]⟩ : ByteArray).data.toList = [0] from rfl, suffix_zero] at HH
 have hsz := bs_size l
 obtain ⟨q, hq⟩ : ∃ q, q = bs l := ⟨_, rfl⟩
 rw [← hq] at HH hsz ⊢
 clear hq
 unfold wholeB
 by_cases hk : k = 3
 ·
  subst hk
  rw [if_pos rfl]
  by_cases h16 : l.length = 16
  ·
   have h1 : (q.size : Int) = 16 := by omega
   have HV := hide (show (l.length == 16) = true by rw [h16]; rfl)
   clear HH hsz h16 hl
   go_enter Tryz.func55, Tryz.ntmps55
   go_wp2
   go_ret
   rw [HV.out]
   exact ⟨rfl, rfl⟩
  ·
   have h1 : ¬ (q.size : Int) = 16 := by omega
   have HV := hide (show (l.length == 16) = false by simpa using h16)
   clear HH hsz h16 hl
   go_enter Tryz.func55, Tryz.ntmps55
   go_wp2
   go_ret
   rw [HV.out]
   exact ⟨by show Ending.returned (.bool ((q.size : Int) == 16)) = _; rw [beq_eq_false_iff_ne.2 (by omega)], rfl⟩
 ·
  rw [if_neg hk]
  have h3 : ¬ (k : Int) = 3 := by omega
  cases hs : (l.getLast? == some 0) with
  | true =>
   rw [hs] at HH
   go_enter Tryz.func55, Tryz.ntmps55
   go_wp2_with (go_at_call 83; refine HH.mono ?_; rintro e w' ⟨rfl, rfl⟩)
   go_ret
   exact ⟨by simp, rfl⟩
  | false =>
   rw [hs] at HH
   by_cases h40 : 40 < l.length
   ·
    have h1 : (40 : Int) < q.size := by omega
    have HV := hide (decide_eq_true h40)
    clear hsz hl h40 hs
    go_enter Tryz.func55, Tryz.ntmps55
    go_wp2_with (go_at_call 83; refine HH.mono ?_; rintro e w' ⟨rfl, rfl⟩)
    go_ret
    rw [HV.out]
    exact ⟨rfl, rfl⟩
   ·
    have h1 : ¬ (40 : Int) < q.size := by omega
    have HV := hide (decide_eq_false h40)
    clear hsz hl h40 hs
    go_enter Tryz.func55, Tryz.ntmps55
    go_wp2_with (go_at_call 83; refine HH.mono ?_; rintro e w' ⟨rfl, rfl⟩)
    go_ret
    rw [HV.out]
    exact ⟨by show Ending.returned (.bool (decide ((40 : Int) < q.size))) = _; rw [decide_eq_false (by omega)]; rfl, rfl⟩
def vlC (v : VL) : Array Value := #[.string v.path, .int .u32 v.ip, .int .i64 v.port]
theorem size_vl : (Tryz.prog.info? 66).map (·.size) = some 3 := by kernel_rfl
theorem vlC_one (v : VL) : (vlC v).all (·.oneCell') = true := by simp [vlC, Value.oneCell']
theorem results_vl {fn : Func} {p u : Tmp} (h : fn.results = #[.cell p 66, .tmp u]) (tmps : Array Value) (w : World) (g : Nat) (cs : Array Value) (v : Value) (hs : cs.size = 3)
  (hp : tmps.getD p undef = .pointer (some ⟨g, 0, none⟩)) (hv : tmps.getD u undef = v) (hg : w.heap[g]? = some (.cells cs 66 (0, 0))) :
  (results fn tmps).run Tryz.prog w = .ok (.tuple #[.agg cs, v]) w := by
 rw [results_cell_tmp h, hp, hv]
 have hl := run_loadVar_row (P := Tryz.prog) w g 66 66 cs (0, 0) _ hg Tryz.underlying66 rfl (by rw [hs]; exact size_vl)
 simp [asAddr, hl]
def valR (k : Nat) (l : W8) : VL × Nat := match valOf k l with
 | some v => (v, 0)
 | none => (zeroVL, if k = 3 then 3 else 6)
theorem trim_zero {l : W8} (h : (l.getLast? == some 0) = true) : Lib.trimSuffix l [0] = l.dropLast := by
 have h1 := suffix_zero l
 rw [h] at h1
 unfold Lib.trimSuffix
 rw [if_pos h1, List.dropLast_eq_take]
 rfl
theorem valueOf_any (k : Nat) (hk : k = 2 ∨ k = 3) (l : W8) (hl : l.length ≤ 9000) (w : World) : Calls Tryz.prog 56 #[.int .i64 k, .string (bs l)] w fun e w' => e = .returned (.tuple #[.agg (vlC (valR k l).1), errV (valR k l).2]) ∧ Below w.heap.size w w' := by
 have hres : (w.alloc (.cells #[.string ⟨#[]⟩, .int .u32 0, .int .i64 0] 66)).heap[w.heap.size]? = some (.cells #[.string ⟨#[]⟩, .int .u32 0, .int .i64 0] 66 (0, 0)) := heap_alloc_new _ _
 obtain ⟨V, hV, hVh, hVb⟩ : ∃ V, V = w.alloc (.cells #[.string ⟨#[]⟩, .int .u32 0, .int .i64 0] 66) ∧ V.heap[w.heap.size]? = some (.cells #[.string ⟨#[]⟩, .int .u32 0, .int .i64 0] 66 (0, 0)) ∧ Below w.heap.size w V := ⟨_, rfl, hres, box_below _ _⟩
 have hVl := (Array.getElem?_eq_some_iff.1 hVh).1
 have HC := Tryz.strings_CutSuffix (bs l) ⟨#[0]⟩ V (by rw [bs_size]; omega)
 rw [bs_data, show (⟨#[0]⟩ : ByteArray).data.toList = [0] from rfl, suffix_zero] at HC
 have HA := aread_any (bs l) V
 clear hres hl
 rcases hk with rfl | rfl
 ·
  cases hs : (l.getLast? == some 0) with
  | true =>
   rw [hs] at HC
   have HR := hide (show valR 2 l = (⟨bs l.dropLast, 0, 0⟩, 0) by
    unfold valR valOf
    rw [if_neg (by omega), if_pos (eq_of_beq hs)])
   rw [trim_zero hs, show (⟨(l.dropLast).toArray⟩ : ByteArray) = bs l.dropLast from rfl] at HC
   obtain ⟨d, hd⟩ : ∃ d, d = bs l.dropLast := ⟨_, rfl⟩
   rw [← hd] at HC HR
   obtain ⟨q, hq⟩ : ∃ q, q = bs l := ⟨_, rfl⟩
   rw [← hq] at HC ⊢
   clear hd hq hs HA
   go_enter Tryz.func56, Tryz.ntmps56
   go_wp2_with fail
   rw [← hV]
   refine HC.mono ?_
   rintro e w' ⟨rfl, hw'⟩
   rw [hw']
   clear hw' hV HC
   go_wp2_with (refine wpList_store_row rfl 66 _ _ rfl w.heap.size (vlC ⟨d, 0, 0⟩) rfl rfl 66 _ hVh size_vl rfl (vlC_one _) ?_)
   refine bodyPost_ret (v := .tuple #[.agg (vlC ⟨d, 0, 0⟩), .nilIface]) (results_vl rfl _ _ w.heap.size (vlC ⟨d, 0, 0⟩) _ rfl rfl rfl (setRow_heap _ _ _ _ _ _ hVh)) rfl ⟨?_, below_setRow hVb (Nat.le_refl _) _⟩
   rw [HR.out]
   rfl
  | false =>
   rw [hs] at HC
   have HR := hide (show valR 2 l = (zeroVL, 6) by
    unfold valR valOf
    rw [if_neg (by omega), if_neg (fun h => by rw [h] at hs; simp at hs)]
    rfl)
   obtain ⟨d, hd⟩ : ∃ d : ByteArray, d = ⟨(Lib.trimSuffix l [0]).toArray⟩ := ⟨_, rfl⟩
   rw [← hd] at HC
   obtain ⟨q, hq⟩ : ∃ q, q = bs l := ⟨_, rfl⟩
   rw [← hq] at HC ⊢
   clear hd hq hs HA
   go_enter Tryz.func56, Tryz.ntmps56
   go_wp2_with fail
   rw [← hV]
   refine HC.mono ?_
   rintro e w' ⟨rfl, hw'⟩
   rw [hw']
   clear hw' hV HC
   go_wp2_with (refine wpList_store_row rfl 66 _ _ rfl w.heap.size (vlC zeroVL) rfl rfl 66 _ hVh size_vl rfl (vlC_one _) ?_)
   refine bodyPost_ret (v := .tuple #[.agg (vlC zeroVL), .iface 82 (.int .i64 6)]) (results_vl rfl _ _ w.heap.size (vlC zeroVL) _ rfl rfl rfl (setRow_heap _ _ _ _ _ _ hVh)) rfl ⟨?_, below_setRow hVb (Nat.le_refl _) _⟩
   rw [HR.out]
   rfl
 ·
  cases hr : readR (bs l) with
  | none =>
   rw [hr] at HA
   have HR := hide (show valR 3 l = (zeroVL, 3) by
    unfold valR valOf
    rw [if_pos rfl, hr]
    rfl)
   unfold readV at HA
   obtain ⟨q, hq⟩ : ∃ q, q = bs l := ⟨_, rfl⟩
   rw [← hq] at HA ⊢
   clear hq hr HC
   go_enter Tryz.func56, Tryz.ntmps56
   go_wp2_with fail
   rw [← hV]
   refine HA.mono ?_
   rintro e X ⟨rfl, hX⟩
   have hXh := (hX.block _ hVl).trans hVh
   have HB := hide (below_next hVb hX)
   clear hV HA hX
   go_wp2_with (refine wpList_store_row rfl 66 _ _ rfl w.heap.size (vlC zeroVL) rfl rfl 66 _ hXh size_vl rfl (vlC_one _) ?_)
   refine bodyPost_ret (v := .tuple #[.agg (vlC zeroVL), .iface 82 (.int .i64 3)]) (results_vl rfl _ _ w.heap.size (vlC zeroVL) _ rfl rfl rfl (setRow_heap _ _ _ _ _ _ hXh)) rfl ⟨?_, below_setRow HB.out (Nat.le_refl _) _⟩
   rw [HR.out]
   rfl
  | some x =>
   obtain ⟨ip, port⟩ := x
   rw [hr] at HA
   have HR := hide (show valR 3 l = (⟨ByteArray.empty, ip, port⟩, 0) by
    unfold valR valOf
    rw [if_pos rfl, hr]
    rfl)
   unfold readV at HA
   obtain ⟨q, hq⟩ : ∃ q, q = bs l := ⟨_, rfl⟩
   rw [← hq] at HA ⊢
   clear hq hr HC
   go_enter Tryz.func56, Tryz.ntmps56
   go_wp2_with fail
   rw [← hV]
   refine HA.mono ?_
   rintro e X ⟨rfl, hX⟩
   have hXh := (hX.block _ hVl).trans hVh
   have HB := hide (below_next hVb hX)
   clear hV HA hX
   go_wp2_with (refine wpList_store_row rfl 66 _ _ rfl w.heap.size (vlC ⟨ByteArray.empty, ip, port⟩) rfl rfl 66 _ hXh size_vl rfl (vlC_one _) ?_)
   refine bodyPost_ret (v := .tuple #[.agg (vlC ⟨ByteArray.empty, ip, port⟩), .nilIface]) (results_vl rfl _ _ w.heap.size (vlC ⟨ByteArray.empty, ip, port⟩) _ rfl rfl rfl (setRow_heap _ _ _ _ _ _ hXh)) rfl ⟨?_, below_setRow HB.out (Nat.le_refl _) _⟩
   rw [HR.out]
   rfl
theorem bytesOf_any (k : Nat) (v : VL) (hv : ValOk k v) (w : World) : Calls Tryz.prog 87 #[.int .i64 k, .agg (vlC v)] w fun e w' => e = .returned (.tuple #[.string (bs (bytesV k v)), .nilIface]) ∧ Below w.heap.size w w' := by
 obtain ⟨path, ip, port⟩ := v
 unfold vlC
 obtain ⟨V, hV, hVb, hVs, hVc⟩ := one_box w #[.string path, .int .u32 ip, .int .i64 port] 66
 have c0 := hVc 0
 have c1 := hVc 1
 have c2 := hVc 2
 simp only [List.getElem?_toArray, List.getElem?_cons_zero, List.getElem?_cons_succ] at c0 c1 c2
 clear hVc
 rcases hv with ⟨rfl, h1, h2, h3, h4⟩ | ⟨rfl, h1, h2, q, h3, h4⟩
 ·
  simp only at h1 h2 h3 h4
  have HR := hide (show bs (bytesV 2 ⟨path, ip, port⟩) = path ++ ⟨#[0]⟩ by
   unfold bytesV
   rw [if_neg (by omega), ← bs_append, bs_of]
   rfl)
  have z : ¬ 9223372036854775807 < path.size + 1 := by omega
  clear h2 h3 h4
  go_enter Tryz.func87, Tryz.ntmps87
  go_wp2
  go_ret2
  exact ⟨by rw [HR.out]; rfl, box_below _ _⟩
 ·
  simp only at h1 h2 h3
  subst h3
  have HB := fun X => bytes_any ip h2 q h4 X
  rw [show (⟨(bytesL ip q).toArray⟩ : ByteArray) = bs (bytesL ip q) from rfl] at HB
  have HR := hide (show bytesV 3 ⟨path, ip, (q : Int)⟩ = bytesL ip q from rfl)
  obtain ⟨r, hr⟩ : ∃ r, r = bs (bytesL ip q) := ⟨_, rfl⟩
  rw [← hr] at HB
  have HRR := hide hr
  clear hr h1 h2 h4
  go_enter Tryz.func87, Tryz.ntmps87
  go_wp2_with fail
  rw [← hV]
  clear hV
  refine (HB _).mono ?_
  rintro e X ⟨rfl, hX⟩
  go_wp2
  go_ret2
  exact ⟨by rw [HR.out, ← HRR.out]; rfl, below_next hVb hX⟩
end Go.Proofs.YtklibmijiecbfaaGreat

/- pointersOf. -/
namespace Go.Proofs.YtklibmijiecbfaaGreat
open Go.RowKit Mm

structure IsInts (base : Nat) (oa : Option Addr) (l : List Nat) (W : World) : Prop where
 lie : 0 < l.length → ∃ b off, oa = some ⟨b, off, none⟩ ∧ base ≤ b ∧ b < W.heap.size ∧ ∀ i x, l[i]? = some x → W.cell? ⟨b, off + i, none⟩ = some (.int .i64 (x : Nat))
theorem IsInts.heap {base : Nat} {oa : Option Addr} {l : List Nat} {W V : World} (h : IsInts base oa l W) (hb : ∀ k, base ≤ k → k < W.heap.size → V.heap[k]? = W.heap[k]?) (hs : W.heap.size ≤ V.heap.size) : IsInts base oa l V :=
 ⟨fun h0 => by
  obtain ⟨b, off, h1, h4, h2, h3⟩ := h.lie h0
  exact ⟨b, off, h1, h4, by omega, fun i x hi => by rw [cell_heap (hb b h4 h2)]; exact h3 i x hi⟩⟩
theorem IsInts.on {base : Nat} {oa : Option Addr} {l : List Nat} {W V : World} (h : IsInts base oa l W) (hb : Below W.heap.size W V) : IsInts base oa l V := h.heap (fun k _ hk => hb.block k hk) hb.size
theorem IsInts.weak {base base' : Nat} {oa : Option Addr} {l : List Nat} {W : World} (h : IsInts base oa l W) (hb : base' ≤ base) : IsInts base' oa l W :=
 ⟨fun h0 => by
  obtain ⟨b, off, h1, h4, h2, h3⟩ := h.lie h0
  exact ⟨b, off, h1, by omega, h2, h3⟩⟩
def intsL (l : List Nat) : List Value := l.map fun x => Value.int .i64 (x : Nat)
theorem info_int : ∃ i, Tryz.prog.info? 3 = some i ∧ i.zero = some (.int .i64 0) ∧ i.size = 1 ∧ i.bytes = 8 := by
 have hz : (Tryz.prog.info? 3).map (·.zero) = some (some (.int .i64 0)) := by kernel_rfl
 have hs : (Tryz.prog.info? 3).map (·.size) = some 1 := by kernel_rfl
 have hb : (Tryz.prog.info? 3).map (·.bytes) = some 8 := by kernel_rfl
 cases hq : Tryz.prog.info? 3 with
 | none => rw [hq] at hs; simp at hs
 | some i =>
  rw [hq] at hz hs hb
  simp at hz hs hb
  exact ⟨i, rfl, hz, hs, hb⟩
theorem ints_owned {W : World} {base : Nat} {v : Value} {l : List Nat} (h : W.ownsRow base 3 1 v l.length (intsL l)) : ∃ oa cap, v = .slice oa l.length cap ∧ l.length ≤ cap ∧ cap ≤ maxLen ∧ IsInts base oa l W := by
 have h' := h
 rcases h.2 with ⟨rfl, hn⟩ | ⟨g, cap, cur, rfl, hb, hg, h1, h2, h3, h4⟩
 ·
  exact ⟨none, 0, by rw [hn], by omega, by unfold maxLen; omega, ⟨fun h0 => by omega⟩⟩
 ·
  refine ⟨_, cap, rfl, h1, h2, ⟨fun h0 => ⟨g, 0, rfl, (h'.lt g rfl).1, (h'.lt g rfl).2, fun i x hx => ?_⟩⟩⟩
  have h5 := h'.cells (g := g) rfl i (.int .i64 (x : Nat)) (by unfold intsL; rw [List.getElem?_map, hx]; rfl)
  rwa [show (⟨g, 0, none⟩ : Addr).add i = ⟨g, 0 + i, none⟩ by unfold Addr.add; split <;> simp_all] at h5
def kindsA (nr : Nat) : Array Value := #[.int .i64 (kindAt nr 0 : Nat), .int .i64 (kindAt nr 1 : Nat), .int .i64 (kindAt nr 2 : Nat), .int .i64 (kindAt nr 3 : Nat)]
theorem kindsA_at (nr i : Nat) (h : i < 4) : (kindsA nr)[i]? = some (.int .i64 (kindAt nr i : Nat)) := by
 rcases show i = 0 ∨ i = 1 ∨ i = 2 ∨ i = 3 by omega with rfl | rfl | rfl | rfl <;> rfl
theorem kindsA_one (nr : Nat) : (kindsA nr).all (·.oneCell') = true := by simp [kindsA, Value.oneCell']
theorem size_kinds : (Tryz.prog.info? 126).map (·.size) = some 4 := by kernel_rfl
theorem results_pts {fn : Func} {p u : Tmp} (h : fn.results = #[.tmp u, .cell p 126]) (tmps : Array Value) (w : World) (g : Nat) (cs : Array Value) (v : Value) (hs : cs.size = 4)
  (hp : tmps.getD p undef = .pointer (some ⟨g, 0, none⟩)) (hv : tmps.getD u undef = v) (hg : w.heap[g]? = some (.cells cs 126 (0, 0))) :
  (results fn tmps).run Tryz.prog w = .ok (.tuple #[v, .agg cs]) w := by
 have hl := run_loadVar_row (P := Tryz.prog) w g 126 126 cs (0, 0) _ hg Tryz.underlying126 rfl (by rw [hs]; exact size_kinds)
 rw [Array.getD_eq_getD_getElem?] at hp hv
 simp [results, h, hp, hv, asAddr, hl]
def ptsTo (nr i : Nat) : List Nat := (List.range i).filter fun j => decide (2 ≤ kindAt nr j)
theorem ptsTo_four {nr : Nat} (h : nr ≤ 8) : ptsTo nr 4 = ptsOf nr := by unfold ptsTo ptsOf; rw [if_pos h]
theorem ptsTo_succ (nr i : Nat) : ptsTo nr (i + 1) = ptsTo nr i ++ if 2 ≤ kindAt nr i then [i] else [] := by
 unfold ptsTo
 rw [List.range_succ, List.filter_append]
 congr 1
 by_cases h : 2 ≤ kindAt nr i
 ·
  rw [if_pos h]; simp [h]
 ·
  rw [if_neg h]; simp [h]
theorem ptsTo_len (nr i : Nat) : (ptsTo nr i).length ≤ i := by
 unfold ptsTo
 exact Nat.le_trans (List.length_filter_le _ _) (by simp)
theorem kind_le (nr i : Nat) : kindAt nr i ≤ 3 := by
 have key : ∀ l ∈ kindTab, ∀ x ∈ l, x ≤ 3 := by decide
 unfold kindAt
 rw [List.getD_eq_getElem?_getD, List.getD_eq_getElem?_getD]
 cases h : kindTab[nr]? with
 | none => simp
 | some l =>
  simp only [Option.getD_some]
  cases h2 : l[i]? with
  | none => simp
  | some x => exact key l (List.mem_of_getElem? h) x (List.mem_of_getElem? h2)

theorem forms_index32 (nr : Nat) (h : nr ≤ 8) (w : World) : (Instr.index 153 (.agg formsArr) (.int .u32 nr)).run Tryz.prog w = .ok (formV nr) w := by
 rcases nine h with rfl | rfl | rfl | rfl | rfl | rfl | rfl | rfl | rfl <;> kernel_rfl
theorem krow_cells {W : World} {r : Nat} (h : W.heap[r]? = some (.cells #[.int .i64 0, .int .i64 0, .int .i64 0, .int .i64 0] 126 (0, 0))) :
  (W.cell? ⟨r, 0, none⟩ = some (.int .i64 0) ∧ W.cell? ⟨r, 1, none⟩ = some (.int .i64 0) ∧ W.cell? ⟨r, 2, none⟩ = some (.int .i64 0) ∧ W.cell? ⟨r, 3, none⟩ = some (.int .i64 0)) ∧
  W.frozen? ⟨r, 0, none⟩ = false ∧ W.frozen? ⟨r, 1, none⟩ = false ∧ W.frozen? ⟨r, 2, none⟩ = false ∧ W.frozen? ⟨r, 3, none⟩ = false :=
 ⟨⟨cell_of_row _ _ 0 _ _ _ h, cell_of_row _ _ 1 _ _ _ h, cell_of_row _ _ 2 _ _ _ h, cell_of_row _ _ 3 _ _ _ h⟩, frozen_of_row _ _ 0 _ _ h, frozen_of_row _ _ 1 _ _ h, frozen_of_row _ _ 2 _ _ h, frozen_of_row _ _ 3 _ _ h⟩
theorem kset4 {W : World} {r : Nat} (h : W.heap[r]? = some (.cells #[.int .i64 0, .int .i64 0, .int .i64 0, .int .i64 0] 126 (0, 0))) (v0 v1 v2 v3 : Value) :
  (((W.setCell ⟨r, 0, none⟩ v0).setCell ⟨r, 1, none⟩ v1).setCell ⟨r, 2, none⟩ v2).setCell ⟨r, 3, none⟩ v3 = W.setRow r #[v0, v1, v2, v3] := by
 rw [setCell_eq_setRow _ _ 0 _ _ _ _ h, setCell_eq_setRow _ _ 1 _ _ _ _ (setRow_heap _ _ _ _ _ _ h), setRow_again _ _ _ _ _ _ h, setCell_eq_setRow _ _ 2 _ _ _ _ (setRow_heap _ _ _ _ _ _ h), setRow_again _ _ _ _ _ _ h, setCell_eq_setRow _ _ 3 _ _ _ _ (setRow_heap _ _ _ _ _ _ h), setRow_again _ _ _ _ _ _ h]
 rfl
structure PKX (w : World) (nr r4 : Nat) (X : World) : Prop where
 below : Below w.heap.size w X
 res : X.heap[w.heap.size + 1]? = some (.cells #[.int .i64 0, .int .i64 0, .int .i64 0, .int .i64 0] 126 (0, 0))
 row : X.heap[r4]? = some (.cells (kindsA nr) 126 (0, 0))
 le : w.heap.size + 1 < r4
theorem PKX.grown {w : World} {nr r4 : Nat} {X Y : World} {row : Option Nat} (h : PKX w nr r4 X) (o : Obj) (hg : (X.alloc o).grownBy Y row) (hr : ∀ k, row = some k → r4 + 1 ≤ k) : PKX w nr r4 Y := by
 have h4 := (Array.getElem?_eq_some_iff.1 h.row).1
 have hl := h.le
 have hb : ∀ k, k ≤ r4 → Y.heap[k]? = X.heap[k]? := fun k hk => (hg.block k (by rw [World.size_alloc]; omega) (fun e => by have := hr k e.symm; omega)).trans ((box_below X o).block k (by omega))
 exact ⟨h.below.trans ⟨hg.os, hg.tape, hg.output, Nat.le_trans (box_below X o).size hg.size, fun k hk => hb k (by omega)⟩, (hb _ (by omega)).trans h.res, (hb r4 (Nat.le_refl _)).trans h.row, h.le⟩
set_option maxHeartbeats 2000000 in
set_option maxRecDepth 20000 in
theorem pts_some (c : KL) (h8 : c.nr ≤ 8) (w : World) : Calls Tryz.prog 52 #[klV c] w fun e w' => (∃ oa cap, e = .returned (.tuple #[.slice oa (ptsOf c.nr).length cap, .agg (kindsA c.nr)]) ∧ (ptsOf c.nr).length ≤ cap ∧ cap ≤ maxLen ∧ IsInts w.heap.size oa (ptsOf c.nr) w') ∧ Below w.heap.size w w' := by
 have HI := fun X => isCall_any c X
 rw [decide_eq_true (by omega : c.nr < 9)] at HI
 unfold klV klC at HI ⊢
 obtain ⟨V, hV, hVb, hVx, hVh⟩ : ∃ V, V = (w.alloc (.cells #[.int .u32 c.arch, .int .u32 c.nr, .int .u64 c.a0, .int .u64 c.a1, .int .u64 c.a2, .int .u64 c.a3] 52)).alloc (.cells #[.int .i64 0, .int .i64 0, .int .i64 0, .int .i64 0] 126) ∧ Below w.heap.size w V ∧ (∀ j : Nat, V.cell? ⟨w.heap.size, j, none⟩ = (#[.int .u32 c.arch, .int .u32 c.nr, .int .u64 c.a0, .int .u64 c.a1, .int .u64 c.a2, .int .u64 c.a3] : Array Value)[j]?) ∧ V.heap[w.heap.size + 1]? = some (.cells #[.int .i64 0, .int .i64 0, .int .i64 0, .int .i64 0] 126 (0, 0)) := by
  obtain ⟨V, h1, h2, h3, h4⟩ := two_box w #[.int .u32 c.arch, .int .u32 c.nr, .int .u64 c.a0, .int .u64 c.a1, .int .u64 c.a2, .int .u64 c.a3] #[.int .i64 0, .int .i64 0, .int .i64 0, .int .i64 0] 52 126
  refine ⟨V, h1, h2, h3, ?_⟩
  rw [h1]
  have := heap_alloc_new (w.alloc (.cells #[.int .u32 c.arch, .int .u32 c.nr, .int .u64 c.a0, .int .u64 c.a1, .int .u64 c.a2, .int .u64 c.a3] 52)) (.cells #[.int .i64 0, .int .i64 0, .int .i64 0, .int .i64 0] 126)
  rwa [World.size_alloc] at this
 have x0 := hVx 0
 have x1 := hVx 1
 have x2 := hVx 2
 have x3 := hVx 3
 have x4 := hVx 4
 have x5 := hVx 5
 simp only [List.getElem?_toArray, List.getElem?_cons_zero, List.getElem?_cons_succ] at x0 x1 x2 x3 x4 x5
 clear hVx
 obtain ⟨nr, hnr⟩ : ∃ n, n = c.nr := ⟨_, rfl⟩
 have fi := fun W => forms_index32 nr (by omega) W
 have fk := fun W => form_kinds nr W
 have HF := fun W => forms_any W
 obtain ⟨FA, hFA⟩ : ∃ a, a = formsArr := ⟨_, rfl⟩
 obtain ⟨FV, hFV⟩ : ∃ a, a = formV nr := ⟨_, rfl⟩
 rw [← hFA] at fi
 rw [← hFV] at fi fk
 simp only [← hFA] at HF
 unfold kindsV at fk
 rw [← hnr] at HI x1 hV ⊢
 have HK := hide (show ∀ i, i < 4 → (kindsA nr)[i]? = some (.int .i64 (kindAt nr i : Nat)) from fun i h => kindsA_at nr i h)
 obtain ⟨k0, hk0⟩ : ∃ k, k = kindAt nr 0 := ⟨_, rfl⟩
 obtain ⟨k1, hk1⟩ : ∃ k, k = kindAt nr 1 := ⟨_, rfl⟩
 obtain ⟨k2, hk2⟩ : ∃ k, k = kindAt nr 2 := ⟨_, rfl⟩
 obtain ⟨k3, hk3⟩ : ∃ k, k = kindAt nr 3 := ⟨_, rfl⟩
 have HKA := hide (show kindsA nr = #[.int .i64 (k0 : Nat), .int .i64 (k1 : Nat), .int .i64 (k2 : Nat), .int .i64 (k3 : Nat)] by rw [hk0, hk1, hk2, hk3]; rfl)
 rw [← hk0, ← hk1, ← hk2, ← hk3] at fk
 have H8 := hide (show nr ≤ 8 by omega)
 have n1 : (0 : Int) ≤ nr := by omega
 have n2 : (nr : Int) < 9 := by have := H8.out; omega
 clear hFA hFV hk0 hk1 hk2 hk3 hnr h8
 go_enter Tryz.func52, Tryz.ntmps52
 go_wp2_with fail
 rw [← hV]
 clear hV
 refine (HI _).mono ?_
 rintro e X ⟨rfl, hX⟩
 have hXh := (hX.block _ (Array.getElem?_eq_some_iff.1 hVh).1).trans hVh
 have y1 := keep_cell hX x1
 have HB := hide (below_next hVb hX)
 have hXl := (Array.getElem?_eq_some_iff.1 hXh).1
 clear hX hVb hVh x0 x1 x2 x3 x4 x5 HI
 go_wp2_with fail
 have z1 : X.drew.cell? ⟨w.heap.size, 1, none⟩ = some (.int .u32 nr) := y1
 have za : (X.alloc (.cells #[.int .i64 0, .int .i64 0, .int .i64 0, .int .i64 0] 126)).drew.cell? ⟨w.heap.size, 1, none⟩ = some (.int .u32 nr) := keep_cell (box_below X _).drew y1
 have zb : (X.alloc (.cells #[.int .i64 0, .int .i64 0, .int .i64 0, .int .i64 0] 126)).drew.heap[X.heap.size]? = some (.cells #[.int .i64 0, .int .i64 0, .int .i64 0, .int .i64 0] 126 (0, 0)) := heap_alloc_new X _
 go_cut [4] (fun S wc => ∃ r4 : Nat, S = .pointer (some ⟨r4, 0, none⟩) ∧ Hid (PKX w nr r4 wc))
 case first =>
  go_region_law
   (first
    | (go_simp; go_at_call 75; refine (HF _).mono ?_; rintro e Y ⟨rfl, hY⟩; (first | (have u1 := keep_cell hY z1; have u2 := keep_cell (box_below Y (.cells #[.int .i64 0, .int .i64 0, .int .i64 0, .int .i64 0] 126)) u1; have HBY := hide (And.intro (below_next HB.out.drew hY) ((hY.block (w.heap.size + 1) hXl).trans hXh))) | (have u1 := keep_cell hY za; have HBY := hide (below_next (below_next HB.out (box_below X _)).drew hY); have uh := (hY.block X.heap.size (by simp [World.drew])).trans zb; have hr1 := (hY.block (w.heap.size + 1) (by simp only [World.drew]; rw [World.size_alloc]; omega)).trans (((box_below X (.cells #[.int .i64 0, .int .i64 0, .int .i64 0, .int .i64 0] 126)).block _ hXl).trans hXh); obtain ⟨⟨p0, p1, p2, p3⟩, g0, g1, g2, g3⟩ := krow_cells uh)); clear hY))
  all_goals
   go_wp2_with fail
   go_meet
   case rel => first
    | exact ⟨Y.heap.size, rfl, hide ⟨below_next HBY.out.1 (box_below _ _), ((box_below Y _).block _ (Array.getElem?_eq_some_iff.1 HBY.out.2).1).trans HBY.out.2, by rw [HKA.out]; exact heap_alloc_new _ _, (Array.getElem?_eq_some_iff.1 HBY.out.2).1⟩⟩
    | exact ⟨X.heap.size, rfl, hide ⟨by rw [kset4 uh]; exact below_setRow HBY.out (by omega) _, by rw [kset4 uh]; exact (setRow_other _ _ _ _ (by omega)).trans hr1, by rw [kset4 uh, HKA.out]; exact setRow_heap _ _ _ _ _ _ uh, hXl⟩⟩
 case rest =>
  obtain ⟨r4, rfl, HC⟩ := hcut
  obtain ⟨inf, hi0, hz0, hz1, hz2⟩ := info_int
  clear z1 za zb y1 hXh hXl HB fi fk HF
  go_wp2
  go_loopw [5, 16] (fun L I w' => ∃ (i : Nat) (lv : Value), L = lv ∧ I = .int .i64 i ∧ i ≤ 4 ∧ Hid (PKX w nr r4 w') ∧ Hid (w'.ownsRow (r4 + 1) 3 1 lv (ptsTo nr i).length (intsL (ptsTo nr i)))) (fun _ I _ => 4 - (intOf I).toNat)
  case atStart => exact ⟨0, _, rfl, rfl, by omega, HC, hide (World.ownsRow_nil _ _ _ _)⟩
  case round =>
   obtain ⟨i, L, hlv, rfl, hi, HC, HO⟩ := hrel
   replace hlv := hlv.symm
   subst hlv
   by_cases hlt : i < 4
   ·
    have ck : wr.cell? ⟨r4, i, none⟩ = some (.int .i64 (kindAt nr i : Nat)) := (cell_of_row _ _ i _ _ _ HC.out.row).trans (HK.out i hlt)
    have hst := ptsTo_succ nr i
    have hkl := kind_le nr i
    have hln := ptsTo_len nr i
    obtain ⟨k, hk⟩ : ∃ k, k = kindAt nr i := ⟨_, rfl⟩
    rw [← hk] at ck hst hkl
    have i1 : (0 : Int) ≤ i := by omega
    have i2 : (i : Int) < 4 := by omega
    have hrl := (Array.getElem?_eq_some_iff.1 HC.out.row).1
    obtain ⟨m, hm⟩ : ∃ m, m = (ptsTo nr i).length := ⟨_, rfl⟩
    rw [← hm] at HO hln
    clear hk
    by_cases h2 : 2 ≤ k
    ·
     rw [if_pos h2] at hst
     have HST := hide hst
     have HM := hide hm
     clear hst hm
     have key : ∀ (b2 : Bool), ((k : Int) == 2) = b2 → ((k : Int) == 3) = !b2 → True := fun _ _ _ => trivial
     have hb : (((k : Int) == 2) = true) ∨ (((k : Int) == 2) = false ∧ ((k : Int) == 3) = true) := by
      rcases show k = 2 ∨ k = 3 by omega with rfl | rfl
      ·
       exact .inl rfl
      ·
       exact .inr ⟨rfl, rfl⟩
     clear key h2 hkl
     rcases hb with b2 | ⟨b2, b3⟩
     all_goals
      go_wp2_with (refine wpList_append_lies _ (by rfl) _ _ _ (by rfl) (r4 + 1) 3 inf _ 1 8 Tryz.underlying125 hi0 hz0 hz1 hz2 rfl (by omega) L m (intsL (ptsTo nr i)) (by rfl) (HO.out.alloc _) ⟨wr.heap.size, 0, none⟩ 1 1 [.int .i64 i] (by rfl) (by rfl) (World.news_of_block (cs := #[.int .i64 i]) (t := 3) (fr := (0, 0)) (heap_alloc_new wr _)) (by simp [Value.oneCell']) (by omega) (by simp only [maxLen]; omega) (by omega) (by rw [World.size_alloc]; omega) (wr.heap.size + 1) (by simp) ?_; intro g7 cap7 w7 hown7 hgrow7 hat7 hlt7; have HB7 := hide (PKX.grown HC.out _ hgrow7 (fun k hk => (HO.out.lt k hk).1)); have HO7 := hide hown7; clear hown7 hgrow7 hat7 hlt7)
      replace HO7 := hide (show w7.ownsRow (r4 + 1) 3 1 (.slice (some ⟨g7, 0, none⟩) (m + 1) cap7) (ptsTo nr (i + 1)).length (intsL (ptsTo nr (i + 1))) by
       have := HO7.out
       rw [HST.out]
       unfold intsL at this ⊢
       rw [List.length_append, List.length_singleton, List.map_append, ← HM.out]
       exact this)
      go_wp2
      go_round
      case rel => exact ⟨i + 1, _, rfl, by go_num, by omega, HB7, HO7⟩
      case measure => simp [intOf]; omega
    ·
     rw [if_neg h2, List.append_nil] at hst
     have HO2 := hide (show wr.ownsRow (r4 + 1) 3 1 L (ptsTo nr (i + 1)).length (intsL (ptsTo nr (i + 1))) by rw [hst, ← hm]; exact HO.out)
     have b2 : ((k : Int) == 2) = false := by simp; omega
     have b3 : ((k : Int) == 3) = false := by simp; omega
     clear hst hm h2 hkl
     go_wp2
     go_round
     case rel => exact ⟨i + 1, _, rfl, by go_num, by omega, HC, HO2⟩
     case measure => simp [intOf]; omega
   ·
    have hi4 : i = 4 := by omega
    rw [hi4, ptsTo_four H8.out] at HO
    have hge : ¬ (i : Int) < 4 := by omega
    clear hi4 hi hlt
    obtain ⟨oa, cap, hL, q1, q2, q3⟩ := ints_owned HO.out
    subst hL
    have hres := HC.out.res
    have hrow := HC.out.row
    rw [HKA.out] at hrow
    have c0 : wr.cell? ⟨r4, 0, none⟩ = some (.int .i64 (k0 : Nat)) := cell_of_row _ _ 0 _ _ _ hrow
    have c1 : wr.cell? ⟨r4, 1, none⟩ = some (.int .i64 (k1 : Nat)) := cell_of_row _ _ 1 _ _ _ hrow
    have c2 : wr.cell? ⟨r4, 2, none⟩ = some (.int .i64 (k2 : Nat)) := cell_of_row _ _ 2 _ _ _ hrow
    have c3 : wr.cell? ⟨r4, 3, none⟩ = some (.int .i64 (k3 : Nat)) := cell_of_row _ _ 3 _ _ _ hrow
    obtain ⟨⟨p0, p1, p2, p3⟩, g0, g1, g2, g3⟩ := krow_cells hres
    obtain ⟨N, hN⟩ : ∃ N, N = (ptsOf nr).length := ⟨_, rfl⟩
    have HIN := hide q3
    rw [← hN] at q1 ⊢
    have HN := hide hN
    clear hN q3
    go_wp2_with fail
    go_region
    all_goals
     rw [kset4 hres, ← HKA.out]
     go_wp2
     refine bodyPost_ret (v := .tuple #[.slice oa N cap, .agg (kindsA nr)]) (results_pts rfl _ (wr.setRow (w.heap.size + 1) (kindsA nr)).drew (w.heap.size + 1) (kindsA nr) _ rfl rfl rfl (setRow_heap wr _ _ _ _ _ hres)) rfl ⟨⟨oa, cap, by rw [HN.out], by rw [← HN.out]; exact q1, q2, ?_⟩, (below_setRow HC.out.below (by omega) _).drew⟩
     have hown := own_but (r := w.heap.size + 1) (V := (wr.setRow (w.heap.size + 1) (kindsA nr)).drew) HO.out ⟨rfl, rfl, rfl, by show _ ≤ (wr.setRow _ _).heap.size; rw [row_size]; exact Nat.le_refl _, fun k _ hn => row_heap wr _ k _ hn⟩ (by have := HC.out.le; omega)
     obtain ⟨oa', cap', hL', _, _, q3⟩ := ints_owned hown
     simp only [Value.slice.injEq] at hL'
     obtain ⟨rfl, _, rfl⟩ := hL'
     exact q3.weak (by have := HC.out.le; omega)
end Go.Proofs.YtklibmijiecbfaaGreat

/- What a ward asks of memory. -/
namespace Go.Proofs.YtklibmijiecbfaaGreat
open Go.RowKit Mm

theorem PWgrown (B : MB) (m : MS) (k : Nat) : B.W.grownBy (PW B m k) (some B.g) :=
 ⟨rfl, rfl, rfl, by show _ ≤ (B.W.setRow B.g _).heap.size; rw [row_size]; exact Nat.le_refl _, fun j _ hn => row_heap B.W B.g j _ (fun e => hn (by rw [e]))⟩
theorem mem_of {fn : FuncId} {args : Nat → Array Value} {g : Nat} {m m' : MS} {v : Value} {W : World} (hM : IsM g m W) (h : ∀ B : MB, Calls Tryz.prog fn (args B.g) (PW B m 0) fun e w' => e = .returned v ∧ ∃ k', w' = PW B m' k') :
  Calls Tryz.prog fn (args g) W fun e w' => e = .returned v ∧ IsM g m' w' ∧ W.grownBy w' (some g) := by
 have h1 := h ⟨W, g, m, hM⟩
 rw [← PW_of hM] at h1
 refine h1.mono ?_
 rintro e w' ⟨he, k', hw⟩
 subst hw
 exact ⟨he, PW_isM _ _ _, PWgrown ⟨W, g, m, hM⟩ m' k'⟩
theorem mfree_any {g : Nat} {m : MS} {W : World} (hM : IsM g m W) (a : Nat) : Calls Tryz.prog 91 #[.pointer (some ⟨g, 0, none⟩), .int .u64 a] W fun e w' => (∃ v, e = .returned v) ∧ IsM g (freeM m a) w' ∧ W.grownBy w' (some g) := by
 unfold freeM
 by_cases h : 8 ≤ a / 64 ∧ a / 64 < 12 ∧ a % 64 = 0 ∧ m.rd (a / 64) = true
 ·
  rw [if_pos h]
  have h1 := mem_of (args := fun g => #[.pointer (some ⟨g, 0, none⟩), .int .u64 ((a / 64 * 64 : Nat) : Int)]) hM fun B => free_ok B m 0 (a / 64) h.1 h.2.1 h.2.2.2
  rw [show a / 64 * 64 = a by omega] at h1
  exact h1.mono fun e w' ⟨he, h2⟩ => ⟨⟨_, he⟩, h2⟩
 ·
  rw [if_neg h]
  have h1 := mem_of (args := fun g => #[.pointer (some ⟨g, 0, none⟩), .int .u64 (a : Int)]) hM fun B => free_none B m 0 a fun n h8 h12 hr he => h ⟨by omega, by omega, by omega, by rw [show a / 64 = n by omega]; exact hr⟩
  exact h1.mono fun e w' ⟨he, h2⟩ => ⟨⟨_, he⟩, h2⟩
theorem mmap_any {g : Nat} {m : MS} {W : World} (hM : IsM g m W) (n : Int) (b : Bool) : Calls Tryz.prog 25 #[.pointer (some ⟨g, 0, none⟩), .int .i64 n, .bool b] W fun e w' => e = .returned (errV (mapW n b m).2) ∧ IsM g (mapW n b m).1 w' ∧ W.grownBy w' (some g) := by
 unfold mapW
 by_cases h : 0 ≤ n ∧ n < 8
 ·
  rw [if_pos h]
  have h1 := mem_of (args := fun g => #[.pointer (some ⟨g, 0, none⟩), .int .i64 ((n.toNat : Nat) : Int), .bool b]) hM fun B => map_ok B m 0 n.toNat (by omega) b
  rw [Int.toNat_of_nonneg h.1] at h1
  exact h1
 ·
  rw [if_neg h]
  exact mem_of (args := fun g => #[.pointer (some ⟨g, 0, none⟩), .int .i64 n, .bool b]) hM fun B => (map_bad B m 0 n h b).mono fun e w' ⟨he, hw⟩ => ⟨he, 0, hw⟩
theorem munmap_any {g : Nat} {m : MS} {W : World} (hM : IsM g m W) (n : Int) : Calls Tryz.prog 63 #[.pointer (some ⟨g, 0, none⟩), .int .i64 n] W fun e w' => e = .returned (errV (unmapW n m).2) ∧ IsM g (unmapW n m).1 w' ∧ W.grownBy w' (some g) := by
 unfold unmapW
 by_cases h : 0 ≤ n ∧ n < 8
 ·
  cases hr : m.rd n.toNat with
  | true =>
   rw [if_pos ⟨h.1, h.2, rfl⟩]
   have h1 := mem_of (args := fun g => #[.pointer (some ⟨g, 0, none⟩), .int .i64 ((n.toNat : Nat) : Int)]) hM fun B => unmap_ok B m 0 n.toNat (by omega) hr
   rw [Int.toNat_of_nonneg h.1] at h1
   exact h1
  | false =>
   rw [if_neg (fun h => by cases h.2.2)]
   have h1 := mem_of (args := fun g => #[.pointer (some ⟨g, 0, none⟩), .int .i64 ((n.toNat : Nat) : Int)]) hM fun B => unmap_no B m 0 n.toNat (by omega) hr
   rw [Int.toNat_of_nonneg h.1] at h1
   exact h1
 ·
  rw [if_neg (fun h' => h ⟨h'.1, h'.2.1⟩)]
  exact mem_of (args := fun g => #[.pointer (some ⟨g, 0, none⟩), .int .i64 n]) hM fun B => unmap_bad B m 0 n h
theorem mput_any {g : Nat} {m : MS} {W : World} (hM : IsM g m W) (a : Nat) (s : ByteArray) (ha : a < 18446744073709551616) (hs : s.size ≤ 1000) : Calls Tryz.prog 64 #[.pointer (some ⟨g, 0, none⟩), .int .u64 a, .string s] W fun e w' => e = .returned (errV (putW a s m).2) ∧ IsM g (putW a s m).1 w' ∧ W.grownBy w' (some g) := by
 unfold putW
 by_cases h : ∀ i, i < s.size → goodM m (addrI a i)
 ·
  rw [if_pos h]
  exact mem_of (args := fun g => #[.pointer (some ⟨g, 0, none⟩), .int .u64 a, .string s]) hM fun B => put_ok B m 0 a s ha (by omega) h
 ·
  rw [if_neg h]
  exact mem_of (args := fun g => #[.pointer (some ⟨g, 0, none⟩), .int .u64 a, .string s]) hM fun B => put_bad B m 0 a s (by omega) (by
   apply Classical.byContradiction
   intro hc
   exact h fun i hi => Classical.byContradiction fun hg => hc ⟨i, hi, hg⟩)
theorem mseal_ok {g : Nat} {m : MS} {W : World} (hM : IsM g m W) {q : Nat} (hq : freeQ m = some q) (s : ByteArray) (hs : s.size ≤ 64) : Calls Tryz.prog 88 #[.pointer (some ⟨g, 0, none⟩), .string s] W fun e w' => e = .returned (.tuple #[.int .u64 ((q * 64 : Nat) : Int), .nilIface]) ∧ IsM g (sealM m q s.data.toList) w' ∧ W.grownBy w' (some g) := by
 obtain ⟨h1, h2, h3, h4⟩ := freeQ_some hq
 exact mem_of (args := fun g => #[.pointer (some ⟨g, 0, none⟩), .string s]) hM fun B => seal_ok B m 0 q s hs h1 h2 h4 h3
theorem mseal_full {g : Nat} {m : MS} {W : World} (hM : IsM g m W) (hq : freeQ m = none) (s : ByteArray) (hs : s.size ≤ 64) : Calls Tryz.prog 88 #[.pointer (some ⟨g, 0, none⟩), .string s] W fun e w' => e = .returned (.tuple #[.int .u64 0, .iface 82 (.int .i64 9)]) ∧ IsM g m w' ∧ W.grownBy w' (some g) :=
 mem_of (args := fun g => #[.pointer (some ⟨g, 0, none⟩), .string s]) hM fun B => seal_full B m 0 s hs (freeQ_none hq)
end Go.Proofs.YtklibmijiecbfaaGreat

/- A thread stored whole. -/
namespace Go.Proofs.YtklibmijiecbfaaGreat
open Go.RowKit Mm

def zThread : Array Value := #[.int .i64 0, .int .u32 0, .int .u32 0, .int .u64 0, .int .u64 0, .int .u64 0, .int .u64 0, .int .u64 0, .int .u64 0, .int .u64 0, .int .u64 0, .bool false, .bool false, .bool false, .bool false, .int .i64 0, .string ⟨#[]⟩, .string ⟨#[]⟩, .int .u32 0, .int .i64 0, .string ⟨#[]⟩, .int .u32 0, .int .i64 0, .string ⟨#[]⟩, .int .u32 0, .int .i64 0, .string ⟨#[]⟩, .int .u32 0, .int .i64 0]
theorem zThread_at : ∀ j, j < 29 → zThread.toList.getD j undef = cellT (idleT 0) j := by
 intro j hj
 match j, hj with
 | 0, _ => rfl
 | 1, _ => rfl
 | 2, _ => rfl
 | 3, _ => rfl
 | 4, _ => rfl
 | 5, _ => rfl
 | 6, _ => rfl
 | 7, _ => rfl
 | 8, _ => rfl
 | 9, _ => rfl
 | 10, _ => rfl
 | 11, _ => rfl
 | 12, _ => rfl
 | 13, _ => rfl
 | 14, _ => rfl
 | 15, _ => rfl
 | 16, _ => rfl
 | 17, _ => rfl
 | 18, _ => rfl
 | 19, _ => rfl
 | 20, _ => rfl
 | 21, _ => rfl
 | 22, _ => rfl
 | 23, _ => rfl
 | 24, _ => rfl
 | 25, _ => rfl
 | 26, _ => rfl
 | 27, _ => rfl
 | 28, _ => rfl
 | j + 29, hj => omega
theorem zThread_one : zThread.all (·.oneCell') = true := by simp [zThread, Value.oneCell']
def ovr (f : Nat → Value) (o : Nat) (l : List Value) : Nat → Value := fun i => if o ≤ i ∧ i < o + l.length then l.getD (i - o) undef else f i
theorem setCells_VA (g : Nat) (ty : TypeId) : ∀ (l : List Value) (o : Nat) (f : Nat → Value) (W : World), W.heap[g]? = some (.cells (VA 92 f) ty (0, 0)) → W.setCells g o l = W.setRow g (VA 92 (ovr f o l))
 | [], o, f, W, h => by
  rw [show ovr f o [] = f by funext i; unfold ovr; rw [if_neg (by simp only [List.length_nil]; omega)]]
  exact (setRow_self W g _ _ _ h).symm
 | x :: r, o, f, W, h => by
  rw [World.setCells, setCell_eq_setRow _ _ _ _ _ _ _ h, VA_set, setCells_VA g ty r (o + 1) (updV f o x) _ (setRow_heap _ _ _ _ _ _ h), setRow_again _ _ _ _ _ _ h]
  congr 2
  funext i
  unfold ovr updV
  by_cases h1 : i = o
  ·
   subst h1
   rw [if_neg (by omega), if_pos rfl, if_pos (by simp), Nat.sub_self]
   rfl
  ·
   by_cases h2 : o + 1 ≤ i ∧ i < o + 1 + r.length
   ·
    rw [if_pos h2, if_pos (by rw [List.length_cons]; omega), show i - o = (i - (o + 1)) + 1 by omega, List.getD_cons_succ]
   ·
    rw [if_neg h2, if_neg h1, if_neg (by rw [List.length_cons]; omega)]
theorem setCells_other (g r : Nat) (hne : r ≠ g) : ∀ (l : List Value) (o : Nat) (W : World), (W.setCells g o l).heap[r]? = W.heap[r]?
 | [], _, _ => rfl
 | x :: l, o, W => by
  rw [World.setCells, setCells_other g r hne l (o + 1)]
  exact Below.heap_setCell W ⟨g, o, none⟩ x r hne
theorem setCells_size (g : Nat) : ∀ (l : List Value) (o : Nat) (W : World), (W.setCells g o l).heap.size = W.heap.size ∧ (W.setCells g o l).os = W.os ∧ (W.setCells g o l).tape = W.tape ∧ (W.setCells g o l).output = W.output
 | [], _, _ => ⟨rfl, rfl, rfl, rfl⟩
 | x :: l, o, W => by
  rw [World.setCells]
  obtain ⟨h1, h2, h3, h4⟩ := setCells_size g l (o + 1) (W.setCell ⟨g, o, none⟩ x)
  exact ⟨h1.trans (by simp [World.setCell]), h2, h3, h4⟩
theorem Fr.cells {g gm : Nat} (lv : Value) (W : World) (o : Nat) (l : List Value) : Fr g gm lv lv W (W.setCells g o l) := by
 obtain ⟨h1, h2, h3, h4⟩ := setCells_size g l o W
 exact ⟨h2, h3, h4, by rw [h1]; exact Nat.le_refl _, fun k _ hk _ _ => setCells_other g k hk l o W, fun _ h => .inl h⟩
theorem WX.setTh {g gm : Nat} {P : PV} {s : WS} {lv : Value} {W : World} (h : WX g gm P s lv W) (n : Nat) (hn : n < 3) (c : Array Value) (hc : c.toList.length = 29) (t : TH) (ht : ∀ j, j < 29 → c.toList.getD j undef = cellT t j) : WX g gm P (s.put n t) lv (W.setCells g (4 + n * 29) c.toList) := by
 rw [setCells_VA g 79 c.toList (4 + n * 29) _ W h.row]
 refine h.rows _ (updW_T P gm s.T lv n hn t _ (fun j hj => ?_) fun i hi => ?_)
 ·
  unfold ovr
  rw [if_pos (by rw [hc]; omega), show 4 + n * 29 + j - (4 + n * 29) = j by omega]
  exact ht j hj
 ·
  unfold ovr
  rw [if_neg]
  rw [hc]
  intro hh
  exact hi (i - (4 + n * 29)) (by omega) (by omega)
theorem put_put (s : WS) (n : Nat) (t u : TH) : (s.put n t).put n u = s.put n u := by unfold WS.put; simp only [updF_again]
theorem wpAny_two {P : Program} {md : Region.Mode} {ops : Array Oper} {Q : Exit → Act → World → Prop} {fuel : Nat} {listed : Array Bool} {a : Act} {w : World} {i j : Nat} {o p : Oper} (hr : Region.ready md ops listed = [i, j]) (ho : ops.toList[i]? = some o) (hg : o.guard = none) (hp : ops.toList[j]? = some p) (hgp : p.guard = none)
  (h : ∀ K : Act → World → Prop, (∀ a w, wpAny P md ops Q fuel (listed.setIfInBounds i true) a w → K a w) → Oper.wp P o a w K Q)
  (h2 : ∀ K : Act → World → Prop, (∀ a w, wpAny P md ops Q fuel (listed.setIfInBounds j true) a w → K a w) → Oper.wp P p a w K Q) : wpAny P md ops Q (fuel + 1) listed a w := by
 refine wpAny_ready hr (by simp) ?_
 refine AllReady.cons (o := o) (by simpa using ho) (fun K hK => ?_) (AllReady.cons (o := p) (by simpa using hp) (fun K hK => ?_) AllReady.nil)
 ·
  have hw : Region.wanted o (yielded ops a.tmps) = true := by simp [Region.wanted, hg]
  rw [if_pos hw]
  exact h K hK
 ·
  have hw : Region.wanted p (yielded ops a.tmps) = true := by simp [Region.wanted, hgp]
  rw [if_pos hw]
  exact h2 K hK
end Go.Proofs.YtklibmijiecbfaaGreat
