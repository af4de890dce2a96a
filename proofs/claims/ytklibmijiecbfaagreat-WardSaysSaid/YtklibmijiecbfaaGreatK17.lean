/- The document's end of a call. -/
import Derived.Test.YtklibmijiecbfaaGreatK14
import Derived.Test.YtklibmijiecbfaaGreatK16
import Derived.Deep.RegionHeld3
import Derived.Deep.DeepCutAuto
import Derived.Lib.SmallJoins
namespace Go.Proofs.YtklibmijiecbfaaGreat
open Go.RowKit Mm

theorem cellDT_asked (t : DT) (sv : Value) : cellDT t sv 1 = .int .u32 t.asked.arch ∧ cellDT t sv 2 = .int .u32 t.asked.nr ∧ cellDT t sv 3 = .int .u64 t.asked.a0 ∧ cellDT t sv 4 = .int .u64 t.asked.a1 ∧ cellDT t sv 5 = .int .u64 t.asked.a2 ∧ cellDT t sv 6 = .int .u64 t.asked.a3 := ⟨rfl, rfl, rfl, rfl, rfl, rfl⟩
theorem size_rthread : (Tryz.prog.info? 92).map (·.size) = some 31 := by kernel_rfl
def zDT : Array Value := #[.int .i64 0, .int .u32 0, .int .u32 0, .int .u64 0, .int .u64 0, .int .u64 0, .int .u64 0, .int .u32 0, .int .u32 0, .int .u64 0, .int .u64 0, .int .u64 0, .int .u64 0, .string ⟨#[]⟩, .string ⟨#[]⟩, .string ⟨#[]⟩, .string ⟨#[]⟩, .int .i64 0, .string ⟨#[]⟩, .int .u32 0, .int .i64 0, .string ⟨#[]⟩, .int .u32 0, .int .i64 0, .string ⟨#[]⟩, .int .u32 0, .int .i64 0, .string ⟨#[]⟩, .int .u32 0, .int .i64 0, .slice none 0 0]
theorem zDT_at : ∀ j, j < 31 → zDT.toList.getD j undef = cellDT (dIdle 0) (.slice none 0 0) j := fun j hj => by
 refine cases31 (Q := fun j => zDT.toList.getD j undef = cellDT (dIdle 0) (.slice none 0 0) j) hj ?_ ?_ ?_ ?_ ?_ ?_ ?_ ?_ ?_ ?_ ?_ ?_ ?_ ?_ ?_ ?_ ?_ ?_ ?_ ?_ ?_ ?_ ?_ ?_ ?_ ?_ ?_ ?_ ?_ ?_ ?_ <;> rfl
theorem zDT_one : zDT.all (·.oneCell') = true := by simp [zDT, Value.oneCell']
theorem run_buildC {o : Oper} {a : Act} {w : World} (ty : TypeId) (parts : Array (Nat × Operand)) (ho : o.op = .build ty parts) {cells : Array Value} (hf : Tryz.prog.built ty (parts.map fun (i, x) => (i, a.eval x)).toList = some cells) : (execOp a.eval o).run Tryz.prog w = .ok (.value (.agg cells)) w := by
 unfold execOp
 simp only [ho, Sem.run_bind, run_build w ty _ cells hf, Result.andThen_ok]
 rfl
theorem run_buildE {o : Oper} {a : Act} {w : World} (x0 x1 x2 x3 x4 : Operand) (v0 v1 v2 v3 v4 : Value) (ho : o.op = .build 70 #[(0, x0), (1, x1), (2, x2), (3, x3), (4, x4)]) (h0 : a.eval x0 = v0) (h1 : a.eval x1 = v1) (h2 : a.eval x2 = v2) (h3 : a.eval x3 = v3) (h4 : a.eval x4 = v4) {cells : Array Value} (hf : Tryz.prog.built 70 [(0, v0), (1, v1), (2, v2), (3, v3), (4, v4)] = some cells) : (execOp a.eval o).run Tryz.prog w = .ok (.value (.agg cells)) w :=
 run_buildC _ _ ho (by simpa [h0, h1, h2, h3, h4] using hf)
theorem size_call6 : (Tryz.prog.info? 52).map (·.size) = some 6 := by kernel_rfl
theorem size_vals12 : (Tryz.prog.info? 68).map (·.size) = some 12 := by kernel_rfl
theorem DX.askr {g : Nat} {P : PV} {d : DWS} {sv : Nat → Value} {lv : Value} {W : World} (h : DX g P d sv lv W) (n : Nat) (hn : n < 3) : W.rangeAt g (783 + n * 31 + 1) (klC (d.T n).asked).toList := fun j v hv => by
 have hj : j < 6 := (List.getElem?_eq_some_iff.1 hv).1
 rw [show 783 + n * 31 + 1 + j = 783 + n * 31 + (1 + j) by omega, h.th n (1 + j) hn (by omega), ← hv]
 rcases show j = 0 ∨ j = 1 ∨ j = 2 ∨ j = 3 ∨ j = 4 ∨ j = 5 by omega with rfl | rfl | rfl | rfl | rfl | rfl <;> rfl
def SealOk (t : DT) : Prop := t.seals.length ≤ 4 ∧ ∀ x ∈ t.seals, x < 18446744073709551616
theorem dend_eq (n kind : Nat) (errno : Int) (v : VS) (d : DWS) : dend n kind errno v d = DWS.put ⟨d.T, (d.T n).seals.foldl freeM d.mem, d.log ++ [⟨kind, n, (d.T n).asked, v, errno⟩]⟩ n (dIdle (if kind = 3 then 6 else 0)) := rfl
theorem take_succ_foldl (l : List Nat) (m : MS) (i : Nat) (hi : i < l.length) : (l.take (i + 1)).foldl freeM m = freeM ((l.take i).foldl freeM m) l[i] := by
 rw [List.take_add_one, List.foldl_append, List.getElem?_eq_getElem hi]
 rfl
theorem own_u64 {W : World} {v : Value} {l : List Nat} (h : W.ownsRow 0 42 1 v l.length (u64L l)) : ∃ o cap, v = .slice o l.length cap ∧ ∀ i (hi : i < l.length), ∃ b, o = some ⟨b, 0, none⟩ ∧ W.cell? ⟨b, i, none⟩ = some (.int .u64 (l[i] : Nat)) := by
 rcases h.2 with ⟨rfl, h0⟩ | ⟨b, cap, cur, rfl, -, hrow, -, -, -, htk⟩
 ·
  exact ⟨none, 0, by rw [h0], fun i hi => by omega⟩
 ·
  refine ⟨some ⟨b, 0, none⟩, cap, rfl, fun i hi => ⟨b, rfl, ?_⟩⟩
  rw [cell_of_row _ _ i _ _ _ hrow]
  have hj : (u64L l)[i]? = some (.int .u64 (l[i] : Nat)) := by unfold u64L; rw [List.getElem?_map, List.getElem?_eq_getElem hi]; rfl
  rw [← htk, List.getElem?_take, if_pos (by omega)] at hj
  simpa using hj
theorem DX.sealc {g : Nat} {P : PV} {d : DWS} {sv : Nat → Value} {lv : Value} {W : World} (h : DX g P d sv lv W) (n : Nat) (hn : n < 3) : ∃ o cap, W.cell? ⟨g, 783 + n * 31 + 30, none⟩ = some (.slice o (d.T n).seals.length cap) ∧ ∀ i (hi : i < (d.T n).seals.length), ∃ b, o = some ⟨b, 0, none⟩ ∧ W.cell? ⟨b, i, none⟩ = some (.int .u64 ((d.T n).seals[i] : Nat)) := by
 obtain ⟨o, cap, h1, h2⟩ := own_u64 (h.sls n hn)
 refine ⟨o, cap, ?_, h2⟩
 rw [h.th n 30 hn (by omega), ← h1]
 rfl
set_option maxHeartbeats 4000000 in
set_option maxRecDepth 100000 in
theorem dend_any {g : Nat} {P : PV} {d : DWS} {sv : Nat → Value} {lv : Value} {W : World} (n : Nat) (hn : n < 3) (kind : Nat) (errno : Int) (v : VS) (h : DX g P d sv lv W) (hlog : d.log.length ≤ 1000000) (hs64 : SealOk (d.T n)) :
  Calls Tryz.prog 94 #[.pointer (some ⟨g, 0, none⟩), .int .i64 n, .int .i64 kind, .int .i64 errno, vsV v] W (DGoes g P (dend n kind errno v d) sv lv W) := by
 have j1 : (0 : Int) ≤ n := by omega
 have j2 : (n : Int) < 3 := by omega
 obtain ⟨k, hk⟩ : ∃ k, k = (d.T n).asked := ⟨_, rfl⟩
 have HX := hide (h.on (box_below W (.cells (vsC v) 68)))
 obtain ⟨r, hr⟩ : ∃ r, r = W.heap.size := ⟨_, rfl⟩
 have hgr : g ≠ r := by rw [hr]; exact Nat.ne_of_lt h.glt
 obtain ⟨X, hX⟩ : ∃ X, X = W.alloc (.cells (vsC v) 68) := ⟨_, rfl⟩
 have hbx : X.heap[r]? = some (.cells (vsC v) 68 (0, 0)) := by rw [hX, hr]; exact heap_alloc_new _ _
 rw [← hX] at HX
 have hrow : X.drew.heap[r]? = some (.cells (vsC v) 68 (0, 0)) := hbx
 have hrng : X.drew.rangeAt g (783 + n * 31 + 1) (klC k).toList := by rw [hk]; exact (HX.out.on (Below.refl _ _).drew).askr n hn
 have HFX := hide (show DFr g sv lv sv lv W X by rw [hX]; exact DFr.of sv lv (box_below _ _))
 have hgX := HX.out.glt
 have hrX : r < X.heap.size := (Array.getElem?_eq_some_iff.1 hbx).1
 have cl : X.drew.cell? ⟨g, 876, none⟩ = some lv := HX.out.logc
 have fl : X.drew.frozen? ⟨g, 876, none⟩ = false := HX.out.fro _
 unfold vsV
 obtain ⟨vc, hvc⟩ : ∃ c, c = vsC v := ⟨_, rfl⟩
 obtain ⟨kc, hkc⟩ : ∃ c, c = klC k := ⟨_, rfl⟩
 have hvs : vc.size = 12 := by rw [hvc]; rfl
 have hks : kc.toList.length = 6 := by rw [hkc]; rfl
 rw [← hvc] at hX hrow hbx
 rw [← hkc] at hrng
 rw [← hvc]
 have HXX := hide hX
 obtain ⟨inf, hi0, hz0, hz1, hz2⟩ := info_entry
 obtain ⟨L, hL⟩ : ∃ L, L = d.log.length := ⟨_, rfl⟩
 rw [← hL] at hlog
 obtain ⟨c1, hc1⟩ : ∃ c, c = entA kind n k v errno := ⟨_, rfl⟩
 have HC1 := hide hc1
 have HB16 : Tryz.prog.built 70 [(0, .int .i64 kind), (1, .int .i64 n), (2, .agg kc), (3, .agg vc), (4, .int .i64 errno)] = some c1 := by
  rw [hc1, hkc, hvc]
  kernel_rfl
 have HBS := fun W => build_entry kind n k v errno W
 rw [← hc1] at HBS
 have HON := hide (show ∀ u ∈ c1.toList, u.oneCell' = true by rw [hc1]; exact ent_one _ _ _ _ _)
 have HSZ := hide (show c1.toList.length = 1 * 21 by rw [hc1]; rfl)
 have HOA := hide (show (X.alloc (.cells c1 70)).drew.ownsRow 0 70 21 lv L (flatE d.log) by rw [hL]; exact HX.out.own.alloc _)
 have HNB := hide (show (X.alloc (.cells c1 70)).drew.heap[X.heap.size]? = some (.cells c1 70 (0, 0)) from heap_alloc_new X _)
 have cl3 : (X.alloc (.cells c1 70)).drew.cell? ⟨g, 876, none⟩ = some lv := keep_cell (box_below X (.cells c1 70)).drew HX.out.logc
 have HCF : Hid (∀ w2 : World, (X.alloc (.cells c1 70)).drew.grownBy w2 lv.ownBlock → w2.cell? ⟨g, 876, none⟩ = some lv ∧ w2.frozen? ⟨g, 876, none⟩ = false) := hide (fun w2 hgrow => by
  obtain ⟨rr, hrr, _⟩ := HX.out.mem
  have hB : w2.heap[g]? = X.heap[g]? := (hgrow.block g (by show g < (X.alloc _).heap.size; rw [World.size_alloc]; omega) (fun e => HX.out.nl.1 e.symm)).trans ((box_below X _).block g hgX)
  exact ⟨(cell_heap hB 876).trans cl, frozen_of_row _ _ 876 _ _ (hB.trans hrr)⟩)
 have HFIN : Hid (∀ (gg cap1 : Nat) (w2 : World), w2.ownsRow 0 70 21 (.slice (some ⟨gg, 0, none⟩) (L + 1) cap1) (L + 1) (flatE d.log ++ c1.toList) → (X.alloc (.cells c1 70)).drew.grownBy w2 lv.ownBlock → (lv.ownBlock = some gg ∨ gg = X.heap.size + 1) → Hid (∃ lv', DX g P { d with log := d.log ++ [⟨kind, n, k, v, errno⟩] } sv lv' (w2.setCell ⟨g, 876, none⟩ (.slice (some ⟨gg, 0, none⟩) (L + 1) cap1)) ∧ DFr g sv lv sv lv' W (w2.setCell ⟨g, 876, none⟩ (.slice (some ⟨gg, 0, none⟩) (L + 1) cap1)))) := hide (fun gg cap1 w2 ho hg hat => hide ⟨.slice (some ⟨gg, 0, none⟩) (L + 1) cap1, by
  have hm := DX.more (l := d.log ++ [⟨kind, n, k, v, errno⟩]) (lv' := .slice (some ⟨gg, 0, none⟩) (L + 1) cap1) (HX.out.on (box_below X (.cells c1 70)).drew) hg (fun b hb => by
   simp only [Value.ownBlock, Option.some.injEq] at hb
   subst hb
   rcases hat with h | h
   ·
    exact .inl h
   ·
    refine .inr ?_
    rw [h]
    show (X.alloc _).heap.size ≤ _
    rw [World.size_alloc]
    exact Nat.le_refl _) (by rw [List.length_append, List.length_singleton, flatE_snoc, ← hL, show (entE ⟨kind, n, k, v, errno⟩) = c1 from hc1.symm]; exact ho)
  exact ⟨hm.1, HFX.out.trans ((DFr.of sv lv (box_below X _).drew).trans hm.2)⟩⟩)
 have HKK := hide hk
 have HR := hide hr
 clear hX hr h hbx hL hk hc1 hvc hkc
 go_enter Tryz.func94, Tryz.ntmps94
 go_wp2_with fail
 rw [← HXX.out, ← HR.out]
 clear HXX
 go_cut [9] (fun S wc => S = .pointer (some ⟨r, 0, none⟩) ∧ Hid (∃ lv', DX g P { d with log := d.log ++ [⟨kind, n, k, v, errno⟩] } sv lv' wc ∧ DFr g sv lv sv lv' W wc))
 case first => as_aux_lemma =>
  refine wp_region_any (by kernel_rfl) ?_
  change wpAny _ _ _ _ _ _ _ (World.drew _)
  refine Gl.wpAny_takeOf 0 (some 11) (Value.pointer (some ⟨g, 0, none⟩)) rfl rfl (by kernel_rfl) (by kernel_rfl) (by kernel_rfl) (fun _ _ _ h => h) (Or.inl ⟨by rfl, ?_⟩) ?_
  ·
   intro wx
   go_simp
  try simp only [Act.put, LT1, LT2, LT3]
  refine Gl.wpAny_takeOf 1 (some 12) (Value.pointer (some ⟨g, 0, none⟩)) rfl rfl (by kernel_rfl) (by kernel_rfl) (by kernel_rfl) (fun _ _ _ h => h) (Or.inl ⟨by rfl, ?_⟩) ?_
  ·
   intro wx
   go_simp
  try simp only [Act.put, LT1, LT2, LT3]
  refine Gl.wpAny_takeOf 2 (some 13) (Value.pointer (some ⟨g, 0, none⟩)) rfl rfl (by kernel_rfl) (by kernel_rfl) (by kernel_rfl) (fun _ _ _ h => h) (Or.inl ⟨by rfl, ?_⟩) ?_
  ·
   intro wx
   go_simp
  try simp only [Act.put, LT1, LT2, LT3]
  refine Gl.wpAny_takeOf 3 (some 14) (Value.pointer (some ⟨g, 876, none⟩)) rfl rfl (by kernel_rfl) (by kernel_rfl) (by kernel_rfl) (fun _ _ _ h => h) (Or.inl ⟨by rfl, ?_⟩) ?_
  ·
   intro wx
   go_simp
  try simp only [Act.put, LT1, LT2, LT3]
  refine Gl.wpAny_takeOf 5 (some 16) (.int .i64 kind) rfl rfl (by kernel_rfl) (by kernel_rfl) (by kernel_rfl) (fun _ _ _ h => h) (Or.inl ⟨by rfl, ?_⟩) ?_
  ·
   intro wx
   go_simp
  try simp only [Act.put, LT1, LT2, LT3]
  refine Gl.wpAny_takeOf 6 (some 17) (.int .i64 n) rfl rfl (by kernel_rfl) (by kernel_rfl) (by kernel_rfl) (fun _ _ _ h => h) (Or.inl ⟨by rfl, ?_⟩) ?_
  ·
   intro wx
   go_simp
  try simp only [Act.put, LT1, LT2, LT3]
  refine Gl.wpAny_takeOf 7 (some 18) (Value.pointer (some ⟨g, 0, none⟩)) rfl rfl (by kernel_rfl) (by kernel_rfl) (by kernel_rfl) (fun _ _ _ h => h) (Or.inl ⟨by rfl, ?_⟩) ?_
  ·
   intro wx
   go_simp
  try simp only [Act.put, LT1, LT2, LT3]
  refine Gl.wpAny_takeOf 8 (some 19) (.int .i64 n) rfl rfl (by kernel_rfl) (by kernel_rfl) (by kernel_rfl) (fun _ _ _ h => h) (Or.inl ⟨by rfl, ?_⟩) ?_
  ·
   intro wx
   go_simp
  try simp only [Act.put, LT1, LT2, LT3]
  refine Gl.wpAny_takeOf 9 (some 20) (Value.pointer (some ⟨g, 0, none⟩)) rfl rfl (by kernel_rfl) (by kernel_rfl) (by kernel_rfl) (fun _ _ _ h => h) (Or.inl ⟨by rfl, ?_⟩) ?_
  ·
   intro wx
   go_simp
  try simp only [Act.put, LT1, LT2, LT3]
  refine Gl.wpAny_takeOf 10 (some 21) (Value.pointer (some ⟨g, 783, none⟩)) rfl rfl (by kernel_rfl) (by kernel_rfl) (by kernel_rfl) (fun _ _ _ h => h) (Or.inl ⟨by rfl, ?_⟩) ?_
  ·
   intro wx
   go_simp
  try simp only [Act.put, LT1, LT2, LT3]
  refine Gl.wpAny_takeOf 11 (some 22) (Value.pointer (some ⟨g, 783 + n * 31, none⟩)) rfl rfl (by kernel_rfl) (by kernel_rfl) (by kernel_rfl) (fun _ _ _ h => h) (Or.inl ⟨by rfl, ?_⟩) ?_
  ·
   intro wx
   go_simp
  try simp only [Act.put, LT1, LT2, LT3]
  refine Gl.wpAny_takeOf 12 (some 23) (Value.pointer (some ⟨g, 783 + n * 31 + 1, none⟩)) rfl rfl (by kernel_rfl) (by kernel_rfl) (by kernel_rfl) (fun _ _ _ h => h) (Or.inl ⟨by rfl, ?_⟩) ?_
  ·
   intro wx
   go_simp
  try simp only [Act.put, LT1, LT2, LT3]
  refine Gl.wpAny_takeOf 15 (some 26) (.int .i64 errno) rfl rfl (by kernel_rfl) (by kernel_rfl) (by kernel_rfl) (fun _ _ _ h => h) (Or.inl ⟨by rfl, ?_⟩) ?_
  ·
   intro wx
   go_simp
  try simp only [Act.put, LT1, LT2, LT3]
  refine wpAny_three (i := 4) (j := 13) (k := 14) (by kernel_rfl) rfl rfl rfl rfl rfl rfl (fun K hK => ?_) (fun K hK => ?_) (fun K hK => ?_)
  ·
   go_simp
   refine hK _ _ ?_
   clear hK K
   try simp only [Act.put, LT1, LT2, LT3]
   refine wpAny_two (i := 13) (j := 14) (by kernel_rfl) rfl rfl rfl rfl (fun K hK => ?_) (fun K hK => ?_)
   ·
    refine wp_load_mid 52 (.tmp 23) rfl g (783 + n * 31 + 1) rfl kc.toList _ hrng Tryz.underlying52 rfl (by rw [hks]; exact size_call6) ?_
    rw [show kc.toList.toArray = kc from Array.toArray_toList]
    refine hK _ _ ?_
    clear hK K
    try simp only [Act.put, LT1, LT2, LT3]
    refine Gl.wpAny_only (i := 14) (by kernel_rfl) rfl rfl (fun K hK => ?_)
    refine wp_load_row 68 (.tmp 9) rfl r rfl 68 vc (0, 0) _ hrow Tryz.underlying68 rfl (by rw [hvs]; exact size_vals12) ?_
    refine hK _ _ ?_
    clear hK K
    try simp only [Act.put, LT1, LT2, LT3]
    refine Gl.wpAny_takeOf 16 (some 27) (.agg c1) rfl rfl (by kernel_rfl) (by kernel_rfl) (by kernel_rfl) (fun _ _ _ h => h) (Or.inl ⟨by rfl, ?_⟩) ?_
    ·
     intro wx
     exact run_buildE (.tmp 16) (.tmp 17) (.tmp 24) (.tmp 25) (.tmp 26) (.int .i64 kind) (.int .i64 n) (.agg kc) (.agg vc) (.int .i64 errno) rfl rfl rfl rfl rfl rfl HB16
    try simp only [Act.put, LT1, LT2, LT3]
    refine Gl.wpAny_only (i := 17) (by kernel_rfl) rfl rfl (fun K hK => ?_)
    refine wp_buildEntry 27 rfl rfl HBS ?_
    refine hK _ _ ?_
    clear hK K
    try simp only [Act.put, LT1, LT2, LT3]
    refine Gl.wpAny_only (i := 18) (by kernel_rfl) rfl rfl (fun K hK => ?_)
    refine wp_append_lies _ _ _ _ rfl 0 70 inf _ 21 192 Tryz.underlying63 hi0 hz0 hz1 hz2 rfl (by omega) lv L (flatE d.log) rfl HOA.out ⟨X.heap.size, 0, none⟩ 1 1 c1.toList rfl HSZ.out (World.news_of_block HNB.out) HON.out (by omega) (by simp only [maxLen]; omega) (by omega) (by omega) (X.heap.size + 1) (by show (X.alloc _).heap.size = _; rw [World.size_alloc]) ?_
    intro gg cap1 w2 hown1 hgrow hat hltt
    have HG := hide (And.intro hown1 (And.intro hgrow (And.intro hat hltt)))
    obtain ⟨cE, fE⟩ := HCF.out w2 hgrow
    clear hown1 hgrow hat hltt
    refine hK _ _ ?_
    clear hK K
    try simp only [Act.put, LT1, LT2, LT3]
    refine Gl.wpAny_only (i := 19) (by kernel_rfl) rfl rfl (fun K hK => ?_)
    go_simp
    refine hK _ _ ?_
    clear hK K
    try simp only [Act.put, LT1, LT2, LT3]
    refine Gl.wpAny_only (i := 20) (by kernel_rfl) rfl rfl (fun K hK => ?_)
    go_simp
    refine hK _ _ ?_
    clear hK K
    try simp only [Act.put, LT1, LT2, LT3]
    refine Gl.wpAny_only (i := 21) (by kernel_rfl) rfl rfl (fun K hK => ?_)
    go_simp
    refine hK _ _ ?_
    clear hK K
    try simp only [Act.put, LT1, LT2, LT3]
    refine wpAny_done (by kernel_rfl) ?_ _
    go_wp2_with fail
    go_meet
    case rel => exact ⟨rfl, HFIN.out gg cap1 w2 HG.out.1 HG.out.2.1 HG.out.2.2.1⟩
   ·
    refine wp_load_row 68 (.tmp 9) rfl r rfl 68 vc (0, 0) _ hrow Tryz.underlying68 rfl (by rw [hvs]; exact size_vals12) ?_
    refine hK _ _ ?_
    clear hK K
    try simp only [Act.put, LT1, LT2, LT3]
    refine Gl.wpAny_only (i := 13) (by kernel_rfl) rfl rfl (fun K hK => ?_)
    refine wp_load_mid 52 (.tmp 23) rfl g (783 + n * 31 + 1) rfl kc.toList _ hrng Tryz.underlying52 rfl (by rw [hks]; exact size_call6) ?_
    rw [show kc.toList.toArray = kc from Array.toArray_toList]
    refine hK _ _ ?_
    clear hK K
    try simp only [Act.put, LT1, LT2, LT3]
    refine Gl.wpAny_takeOf 16 (some 27) (.agg c1) rfl rfl (by kernel_rfl) (by kernel_rfl) (by kernel_rfl) (fun _ _ _ h => h) (Or.inl ⟨by rfl, ?_⟩) ?_
    ·
     intro wx
     exact run_buildE (.tmp 16) (.tmp 17) (.tmp 24) (.tmp 25) (.tmp 26) (.int .i64 kind) (.int .i64 n) (.agg kc) (.agg vc) (.int .i64 errno) rfl rfl rfl rfl rfl rfl HB16
    try simp only [Act.put, LT1, LT2, LT3]
    refine Gl.wpAny_only (i := 17) (by kernel_rfl) rfl rfl (fun K hK => ?_)
    refine wp_buildEntry 27 rfl rfl HBS ?_
    refine hK _ _ ?_
    clear hK K
    try simp only [Act.put, LT1, LT2, LT3]
    refine Gl.wpAny_only (i := 18) (by kernel_rfl) rfl rfl (fun K hK => ?_)
    refine wp_append_lies _ _ _ _ rfl 0 70 inf _ 21 192 Tryz.underlying63 hi0 hz0 hz1 hz2 rfl (by omega) lv L (flatE d.log) rfl HOA.out ⟨X.heap.size, 0, none⟩ 1 1 c1.toList rfl HSZ.out (World.news_of_block HNB.out) HON.out (by omega) (by simp only [maxLen]; omega) (by omega) (by omega) (X.heap.size + 1) (by show (X.alloc _).heap.size = _; rw [World.size_alloc]) ?_
    intro gg cap1 w2 hown1 hgrow hat hltt
    have HG := hide (And.intro hown1 (And.intro hgrow (And.intro hat hltt)))
    obtain ⟨cE, fE⟩ := HCF.out w2 hgrow
    clear hown1 hgrow hat hltt
    refine hK _ _ ?_
    clear hK K
    try simp only [Act.put, LT1, LT2, LT3]
    refine Gl.wpAny_only (i := 19) (by kernel_rfl) rfl rfl (fun K hK => ?_)
    go_simp
    refine hK _ _ ?_
    clear hK K
    try simp only [Act.put, LT1, LT2, LT3]
    refine Gl.wpAny_only (i := 20) (by kernel_rfl) rfl rfl (fun K hK => ?_)
    go_simp
    refine hK _ _ ?_
    clear hK K
    try simp only [Act.put, LT1, LT2, LT3]
    refine Gl.wpAny_only (i := 21) (by kernel_rfl) rfl rfl (fun K hK => ?_)
    go_simp
    refine hK _ _ ?_
    clear hK K
    try simp only [Act.put, LT1, LT2, LT3]
    refine wpAny_done (by kernel_rfl) ?_ _
    go_wp2_with fail
    go_meet
    case rel => exact ⟨rfl, HFIN.out gg cap1 w2 HG.out.1 HG.out.2.1 HG.out.2.2.1⟩
  ·
   refine wp_load_mid 52 (.tmp 23) rfl g (783 + n * 31 + 1) rfl kc.toList _ hrng Tryz.underlying52 rfl (by rw [hks]; exact size_call6) ?_
   rw [show kc.toList.toArray = kc from Array.toArray_toList]
   refine hK _ _ ?_
   clear hK K
   try simp only [Act.put, LT1, LT2, LT3]
   refine wpAny_two (i := 4) (j := 14) (by kernel_rfl) rfl rfl rfl rfl (fun K hK => ?_) (fun K hK => ?_)
   ·
    go_simp
    refine hK _ _ ?_
    clear hK K
    try simp only [Act.put, LT1, LT2, LT3]
    refine Gl.wpAny_only (i := 14) (by kernel_rfl) rfl rfl (fun K hK => ?_)
    refine wp_load_row 68 (.tmp 9) rfl r rfl 68 vc (0, 0) _ hrow Tryz.underlying68 rfl (by rw [hvs]; exact size_vals12) ?_
    refine hK _ _ ?_
    clear hK K
    try simp only [Act.put, LT1, LT2, LT3]
    refine Gl.wpAny_takeOf 16 (some 27) (.agg c1) rfl rfl (by kernel_rfl) (by kernel_rfl) (by kernel_rfl) (fun _ _ _ h => h) (Or.inl ⟨by rfl, ?_⟩) ?_
    ·
     intro wx
     exact run_buildE (.tmp 16) (.tmp 17) (.tmp 24) (.tmp 25) (.tmp 26) (.int .i64 kind) (.int .i64 n) (.agg kc) (.agg vc) (.int .i64 errno) rfl rfl rfl rfl rfl rfl HB16
    try simp only [Act.put, LT1, LT2, LT3]
    refine Gl.wpAny_only (i := 17) (by kernel_rfl) rfl rfl (fun K hK => ?_)
    refine wp_buildEntry 27 rfl rfl HBS ?_
    refine hK _ _ ?_
    clear hK K
    try simp only [Act.put, LT1, LT2, LT3]
    refine Gl.wpAny_only (i := 18) (by kernel_rfl) rfl rfl (fun K hK => ?_)
    refine wp_append_lies _ _ _ _ rfl 0 70 inf _ 21 192 Tryz.underlying63 hi0 hz0 hz1 hz2 rfl (by omega) lv L (flatE d.log) rfl HOA.out ⟨X.heap.size, 0, none⟩ 1 1 c1.toList rfl HSZ.out (World.news_of_block HNB.out) HON.out (by omega) (by simp only [maxLen]; omega) (by omega) (by omega) (X.heap.size + 1) (by show (X.alloc _).heap.size = _; rw [World.size_alloc]) ?_
    intro gg cap1 w2 hown1 hgrow hat hltt
    have HG := hide (And.intro hown1 (And.intro hgrow (And.intro hat hltt)))
    obtain ⟨cE, fE⟩ := HCF.out w2 hgrow
    clear hown1 hgrow hat hltt
    refine hK _ _ ?_
    clear hK K
    try simp only [Act.put, LT1, LT2, LT3]
    refine Gl.wpAny_only (i := 19) (by kernel_rfl) rfl rfl (fun K hK => ?_)
    go_simp
    refine hK _ _ ?_
    clear hK K
    try simp only [Act.put, LT1, LT2, LT3]
    refine Gl.wpAny_only (i := 20) (by kernel_rfl) rfl rfl (fun K hK => ?_)
    go_simp
    refine hK _ _ ?_
    clear hK K
    try simp only [Act.put, LT1, LT2, LT3]
    refine Gl.wpAny_only (i := 21) (by kernel_rfl) rfl rfl (fun K hK => ?_)
    go_simp
    refine hK _ _ ?_
    clear hK K
    try simp only [Act.put, LT1, LT2, LT3]
    refine wpAny_done (by kernel_rfl) ?_ _
    go_wp2_with fail
    go_meet
    case rel => exact ⟨rfl, HFIN.out gg cap1 w2 HG.out.1 HG.out.2.1 HG.out.2.2.1⟩
   ·
    refine wp_load_row 68 (.tmp 9) rfl r rfl 68 vc (0, 0) _ hrow Tryz.underlying68 rfl (by rw [hvs]; exact size_vals12) ?_
    refine hK _ _ ?_
    clear hK K
    try simp only [Act.put, LT1, LT2, LT3]
    refine Gl.wpAny_takeOf 16 (some 27) (.agg c1) rfl rfl (by kernel_rfl) (by kernel_rfl) (by kernel_rfl) (fun _ _ _ h => h) (Or.inl ⟨by rfl, ?_⟩) ?_
    ·
     intro wx
     exact run_buildE (.tmp 16) (.tmp 17) (.tmp 24) (.tmp 25) (.tmp 26) (.int .i64 kind) (.int .i64 n) (.agg kc) (.agg vc) (.int .i64 errno) rfl rfl rfl rfl rfl rfl HB16
    try simp only [Act.put, LT1, LT2, LT3]
    refine wpAny_two (i := 4) (j := 17) (by kernel_rfl) rfl rfl rfl rfl (fun K hK => ?_) (fun K hK => ?_)
    ·
     go_simp
     refine hK _ _ ?_
     clear hK K
     try simp only [Act.put, LT1, LT2, LT3]
     refine Gl.wpAny_only (i := 17) (by kernel_rfl) rfl rfl (fun K hK => ?_)
     refine wp_buildEntry 27 rfl rfl HBS ?_
     refine hK _ _ ?_
     clear hK K
     try simp only [Act.put, LT1, LT2, LT3]
     refine Gl.wpAny_only (i := 18) (by kernel_rfl) rfl rfl (fun K hK => ?_)
     refine wp_append_lies _ _ _ _ rfl 0 70 inf _ 21 192 Tryz.underlying63 hi0 hz0 hz1 hz2 rfl (by omega) lv L (flatE d.log) rfl HOA.out ⟨X.heap.size, 0, none⟩ 1 1 c1.toList rfl HSZ.out (World.news_of_block HNB.out) HON.out (by omega) (by simp only [maxLen]; omega) (by omega) (by omega) (X.heap.size + 1) (by show (X.alloc _).heap.size = _; rw [World.size_alloc]) ?_
     intro gg cap1 w2 hown1 hgrow hat hltt
     have HG := hide (And.intro hown1 (And.intro hgrow (And.intro hat hltt)))
     obtain ⟨cE, fE⟩ := HCF.out w2 hgrow
     clear hown1 hgrow hat hltt
     refine hK _ _ ?_
     clear hK K
     try simp only [Act.put, LT1, LT2, LT3]
     refine Gl.wpAny_only (i := 19) (by kernel_rfl) rfl rfl (fun K hK => ?_)
     go_simp
     refine hK _ _ ?_
     clear hK K
     try simp only [Act.put, LT1, LT2, LT3]
     refine Gl.wpAny_only (i := 20) (by kernel_rfl) rfl rfl (fun K hK => ?_)
     go_simp
     refine hK _ _ ?_
     clear hK K
     try simp only [Act.put, LT1, LT2, LT3]
     refine Gl.wpAny_only (i := 21) (by kernel_rfl) rfl rfl (fun K hK => ?_)
     go_simp
     refine hK _ _ ?_
     clear hK K
     try simp only [Act.put, LT1, LT2, LT3]
     refine wpAny_done (by kernel_rfl) ?_ _
     go_wp2_with fail
     go_meet
     case rel => exact ⟨rfl, HFIN.out gg cap1 w2 HG.out.1 HG.out.2.1 HG.out.2.2.1⟩
    ·
     refine wp_buildEntry 27 rfl rfl HBS ?_
     refine hK _ _ ?_
     clear hK K
     try simp only [Act.put, LT1, LT2, LT3]
     refine Gl.wpAny_only (i := 4) (by kernel_rfl) rfl rfl (fun K hK => ?_)
     go_simp
     refine hK _ _ ?_
     clear hK K
     try simp only [Act.put, LT1, LT2, LT3]
     refine Gl.wpAny_only (i := 18) (by kernel_rfl) rfl rfl (fun K hK => ?_)
     refine wp_append_lies _ _ _ _ rfl 0 70 inf _ 21 192 Tryz.underlying63 hi0 hz0 hz1 hz2 rfl (by omega) lv L (flatE d.log) rfl HOA.out ⟨X.heap.size, 0, none⟩ 1 1 c1.toList rfl HSZ.out (World.news_of_block HNB.out) HON.out (by omega) (by simp only [maxLen]; omega) (by omega) (by omega) (X.heap.size + 1) (by show (X.alloc _).heap.size = _; rw [World.size_alloc]) ?_
     intro gg cap1 w2 hown1 hgrow hat hltt
     have HG := hide (And.intro hown1 (And.intro hgrow (And.intro hat hltt)))
     obtain ⟨cE, fE⟩ := HCF.out w2 hgrow
     clear hown1 hgrow hat hltt
     refine hK _ _ ?_
     clear hK K
     try simp only [Act.put, LT1, LT2, LT3]
     refine Gl.wpAny_only (i := 19) (by kernel_rfl) rfl rfl (fun K hK => ?_)
     go_simp
     refine hK _ _ ?_
     clear hK K
     try simp only [Act.put, LT1, LT2, LT3]
     refine Gl.wpAny_only (i := 20) (by kernel_rfl) rfl rfl (fun K hK => ?_)
     go_simp
     refine hK _ _ ?_
     clear hK K
     try simp only [Act.put, LT1, LT2, LT3]
     refine Gl.wpAny_only (i := 21) (by kernel_rfl) rfl rfl (fun K hK => ?_)
     go_simp
     refine hK _ _ ?_
     clear hK K
     try simp only [Act.put, LT1, LT2, LT3]
     refine wpAny_done (by kernel_rfl) ?_ _
     go_wp2_with fail
     go_meet
     case rel => exact ⟨rfl, HFIN.out gg cap1 w2 HG.out.1 HG.out.2.1 HG.out.2.2.1⟩
  ·
   refine wp_load_row 68 (.tmp 9) rfl r rfl 68 vc (0, 0) _ hrow Tryz.underlying68 rfl (by rw [hvs]; exact size_vals12) ?_
   refine hK _ _ ?_
   clear hK K
   try simp only [Act.put, LT1, LT2, LT3]
   refine wpAny_two (i := 4) (j := 13) (by kernel_rfl) rfl rfl rfl rfl (fun K hK => ?_) (fun K hK => ?_)
   ·
    go_simp
    refine hK _ _ ?_
    clear hK K
    try simp only [Act.put, LT1, LT2, LT3]
    refine Gl.wpAny_only (i := 13) (by kernel_rfl) rfl rfl (fun K hK => ?_)
    refine wp_load_mid 52 (.tmp 23) rfl g (783 + n * 31 + 1) rfl kc.toList _ hrng Tryz.underlying52 rfl (by rw [hks]; exact size_call6) ?_
    rw [show kc.toList.toArray = kc from Array.toArray_toList]
    refine hK _ _ ?_
    clear hK K
    try simp only [Act.put, LT1, LT2, LT3]
    refine Gl.wpAny_takeOf 16 (some 27) (.agg c1) rfl rfl (by kernel_rfl) (by kernel_rfl) (by kernel_rfl) (fun _ _ _ h => h) (Or.inl ⟨by rfl, ?_⟩) ?_
    ·
     intro wx
     exact run_buildE (.tmp 16) (.tmp 17) (.tmp 24) (.tmp 25) (.tmp 26) (.int .i64 kind) (.int .i64 n) (.agg kc) (.agg vc) (.int .i64 errno) rfl rfl rfl rfl rfl rfl HB16
    try simp only [Act.put, LT1, LT2, LT3]
    refine Gl.wpAny_only (i := 17) (by kernel_rfl) rfl rfl (fun K hK => ?_)
    refine wp_buildEntry 27 rfl rfl HBS ?_
    refine hK _ _ ?_
    clear hK K
    try simp only [Act.put, LT1, LT2, LT3]
    refine Gl.wpAny_only (i := 18) (by kernel_rfl) rfl rfl (fun K hK => ?_)
    refine wp_append_lies _ _ _ _ rfl 0 70 inf _ 21 192 Tryz.underlying63 hi0 hz0 hz1 hz2 rfl (by omega) lv L (flatE d.log) rfl HOA.out ⟨X.heap.size, 0, none⟩ 1 1 c1.toList rfl HSZ.out (World.news_of_block HNB.out) HON.out (by omega) (by simp only [maxLen]; omega) (by omega) (by omega) (X.heap.size + 1) (by show (X.alloc _).heap.size = _; rw [World.size_alloc]) ?_
    intro gg cap1 w2 hown1 hgrow hat hltt
    have HG := hide (And.intro hown1 (And.intro hgrow (And.intro hat hltt)))
    obtain ⟨cE, fE⟩ := HCF.out w2 hgrow
    clear hown1 hgrow hat hltt
    refine hK _ _ ?_
    clear hK K
    try simp only [Act.put, LT1, LT2, LT3]
    refine Gl.wpAny_only (i := 19) (by kernel_rfl) rfl rfl (fun K hK => ?_)
    go_simp
    refine hK _ _ ?_
    clear hK K
    try simp only [Act.put, LT1, LT2, LT3]
    refine Gl.wpAny_only (i := 20) (by kernel_rfl) rfl rfl (fun K hK => ?_)
    go_simp
    refine hK _ _ ?_
    clear hK K
    try simp only [Act.put, LT1, LT2, LT3]
    refine Gl.wpAny_only (i := 21) (by kernel_rfl) rfl rfl (fun K hK => ?_)
    go_simp
    refine hK _ _ ?_
    clear hK K
    try simp only [Act.put, LT1, LT2, LT3]
    refine wpAny_done (by kernel_rfl) ?_ _
    go_wp2_with fail
    go_meet
    case rel => exact ⟨rfl, HFIN.out gg cap1 w2 HG.out.1 HG.out.2.1 HG.out.2.2.1⟩
   ·
    refine wp_load_mid 52 (.tmp 23) rfl g (783 + n * 31 + 1) rfl kc.toList _ hrng Tryz.underlying52 rfl (by rw [hks]; exact size_call6) ?_
    rw [show kc.toList.toArray = kc from Array.toArray_toList]
    refine hK _ _ ?_
    clear hK K
    try simp only [Act.put, LT1, LT2, LT3]
    refine Gl.wpAny_takeOf 16 (some 27) (.agg c1) rfl rfl (by kernel_rfl) (by kernel_rfl) (by kernel_rfl) (fun _ _ _ h => h) (Or.inl ⟨by rfl, ?_⟩) ?_
    ·
     intro wx
     exact run_buildE (.tmp 16) (.tmp 17) (.tmp 24) (.tmp 25) (.tmp 26) (.int .i64 kind) (.int .i64 n) (.agg kc) (.agg vc) (.int .i64 errno) rfl rfl rfl rfl rfl rfl HB16
    try simp only [Act.put, LT1, LT2, LT3]
    refine wpAny_two (i := 4) (j := 17) (by kernel_rfl) rfl rfl rfl rfl (fun K hK => ?_) (fun K hK => ?_)
    ·
     go_simp
     refine hK _ _ ?_
     clear hK K
     try simp only [Act.put, LT1, LT2, LT3]
     refine Gl.wpAny_only (i := 17) (by kernel_rfl) rfl rfl (fun K hK => ?_)
     refine wp_buildEntry 27 rfl rfl HBS ?_
     refine hK _ _ ?_
     clear hK K
     try simp only [Act.put, LT1, LT2, LT3]
     refine Gl.wpAny_only (i := 18) (by kernel_rfl) rfl rfl (fun K hK => ?_)
     refine wp_append_lies _ _ _ _ rfl 0 70 inf _ 21 192 Tryz.underlying63 hi0 hz0 hz1 hz2 rfl (by omega) lv L (flatE d.log) rfl HOA.out ⟨X.heap.size, 0, none⟩ 1 1 c1.toList rfl HSZ.out (World.news_of_block HNB.out) HON.out (by omega) (by simp only [maxLen]; omega) (by omega) (by omega) (X.heap.size + 1) (by show (X.alloc _).heap.size = _; rw [World.size_alloc]) ?_
     intro gg cap1 w2 hown1 hgrow hat hltt
     have HG := hide (And.intro hown1 (And.intro hgrow (And.intro hat hltt)))
     obtain ⟨cE, fE⟩ := HCF.out w2 hgrow
     clear hown1 hgrow hat hltt
     refine hK _ _ ?_
     clear hK K
     try simp only [Act.put, LT1, LT2, LT3]
     refine Gl.wpAny_only (i := 19) (by kernel_rfl) rfl rfl (fun K hK => ?_)
     go_simp
     refine hK _ _ ?_
     clear hK K
     try simp only [Act.put, LT1, LT2, LT3]
     refine Gl.wpAny_only (i := 20) (by kernel_rfl) rfl rfl (fun K hK => ?_)
     go_simp
     refine hK _ _ ?_
     clear hK K
     try simp only [Act.put, LT1, LT2, LT3]
     refine Gl.wpAny_only (i := 21) (by kernel_rfl) rfl rfl (fun K hK => ?_)
     go_simp
     refine hK _ _ ?_
     clear hK K
     try simp only [Act.put, LT1, LT2, LT3]
     refine wpAny_done (by kernel_rfl) ?_ _
     go_wp2_with fail
     go_meet
     case rel => exact ⟨rfl, HFIN.out gg cap1 w2 HG.out.1 HG.out.2.1 HG.out.2.2.1⟩
    ·
     refine wp_buildEntry 27 rfl rfl HBS ?_
     refine hK _ _ ?_
     clear hK K
     try simp only [Act.put, LT1, LT2, LT3]
     refine Gl.wpAny_only (i := 4) (by kernel_rfl) rfl rfl (fun K hK => ?_)
     go_simp
     refine hK _ _ ?_
     clear hK K
     try simp only [Act.put, LT1, LT2, LT3]
     refine Gl.wpAny_only (i := 18) (by kernel_rfl) rfl rfl (fun K hK => ?_)
     refine wp_append_lies _ _ _ _ rfl 0 70 inf _ 21 192 Tryz.underlying63 hi0 hz0 hz1 hz2 rfl (by omega) lv L (flatE d.log) rfl HOA.out ⟨X.heap.size, 0, none⟩ 1 1 c1.toList rfl HSZ.out (World.news_of_block HNB.out) HON.out (by omega) (by simp only [maxLen]; omega) (by omega) (by omega) (X.heap.size + 1) (by show (X.alloc _).heap.size = _; rw [World.size_alloc]) ?_
     intro gg cap1 w2 hown1 hgrow hat hltt
     have HG := hide (And.intro hown1 (And.intro hgrow (And.intro hat hltt)))
     obtain ⟨cE, fE⟩ := HCF.out w2 hgrow
     clear hown1 hgrow hat hltt
     refine hK _ _ ?_
     clear hK K
     try simp only [Act.put, LT1, LT2, LT3]
     refine Gl.wpAny_only (i := 19) (by kernel_rfl) rfl rfl (fun K hK => ?_)
     go_simp
     refine hK _ _ ?_
     clear hK K
     try simp only [Act.put, LT1, LT2, LT3]
     refine Gl.wpAny_only (i := 20) (by kernel_rfl) rfl rfl (fun K hK => ?_)
     go_simp
     refine hK _ _ ?_
     clear hK K
     try simp only [Act.put, LT1, LT2, LT3]
     refine Gl.wpAny_only (i := 21) (by kernel_rfl) rfl rfl (fun K hK => ?_)
     go_simp
     refine hK _ _ ?_
     clear hK K
     try simp only [Act.put, LT1, LT2, LT3]
     refine wpAny_done (by kernel_rfl) ?_ _
     go_wp2_with fail
     go_meet
     case rel => exact ⟨rfl, HFIN.out gg cap1 w2 HG.out.1 HG.out.2.1 HG.out.2.2.1⟩
 case rest => as_aux_lemma =>
  obtain ⟨rfl, HC⟩ := hcut
  obtain ⟨lv', hD, hF⟩ := HC.out
  obtain ⟨se, hse⟩ : ∃ l, l = (d.T n).seals := ⟨_, rfl⟩
  obtain ⟨log1, hlog1⟩ : ∃ l, l = d.log ++ [⟨kind, n, k, v, errno⟩] := ⟨_, rfl⟩
  obtain ⟨L1, hL1⟩ : ∃ m, m = se.length := ⟨_, rfl⟩
  have HD : Hid (DX g P ⟨d.T, (se.take 0).foldl freeM d.mem, log1⟩ sv lv' wc) := hide (by rw [hlog1]; exact hD)
  have HF := hide hF
  have HSE := hide hse
  have HL1 := hide hL1
  have HS64 := hide hs64.2
  have hL4 : L1 ≤ 4 := by rw [hL1, hse]; exact hs64.1
  have HEN := hide (show dend n kind errno v d = DWS.put ⟨d.T, se.foldl freeM d.mem, log1⟩ n (dIdle (if kind = 3 then 6 else 0)) by rw [hse, hlog1, HKK.out]; exact dend_eq _ _ _ _ _)
  clear hD hF HC hse hlog1 hL1 hrow hrng hvs hks HB16 cl fl cl3 HCF HFIN HOA HNB HON HSZ HBS HX HFX hi0 hz0 hz1 hz2 hs64 HC1 hgr hgX hrX HR
  go_wp2_with fail
  go_loopw [10] (fun I w' => ∃ i : Nat, i ≤ L1 ∧ I = .int .i64 i ∧ Hid (DX g P ⟨d.T, (se.take i).foldl freeM d.mem, log1⟩ sv lv' w') ∧ Hid (DFr g sv lv sv lv' W w')) (fun I _ => L1 - (intOf I).toNat)
  case atStart => exact ⟨0, by omega, rfl, HD, HF⟩
  case round =>
   obtain ⟨i, hi, rfl, HC, HG⟩ := hrel
   clear HD HF
   obtain ⟨o, cap, c30, hsc⟩ := HC.out.sealc n hn
   simp only at c30 hsc
   rw [← HSE.out, ← HL1.out] at c30
   by_cases hlt : i < L1
   ·
    as_aux_lemma =>
    have hlt' : i < se.length := by rw [← HL1.out]; exact hlt
    have hlt2 : i < (d.T n).seals.length := by rw [← HSE.out]; exact hlt'
    obtain ⟨b, rfl, ci⟩ := hsc i hlt2
    obtain ⟨a, ha⟩ : ∃ a, a = (d.T n).seals[i] := ⟨_, rfl⟩
    have ha64 : a < 18446744073709551616 := by rw [ha]; exact HS64.out _ (List.getElem_mem _)
    rw [← ha] at ci
    have HST := hide (show (se.take (i + 1)).foldl freeM d.mem = freeM ((se.take i).foldl freeM d.mem) a by rw [take_succ_foldl _ _ _ hlt', ha]; simp only [HSE.out])
    have k1 : (0 : Int) ≤ i := by omega
    have k2 : (i : Int) < L1 := by omega
    replace HC := hide (HC.out.on (Below.refl _ wr).drew)
    replace HG := hide (HG.out.trans (DFr.of sv lv' (Below.refl _ wr).drew))
    obtain ⟨m0, hm0⟩ : ∃ m, m = (se.take i).foldl freeM d.mem := ⟨_, rfl⟩
    rw [← hm0] at HC HST
    have HM := fun X (h : Vr.IsD (LD g P d.T sv lv') m0 X) => (show Calls Tryz.prog 117 #[.pointer (some ⟨g, 3, none⟩), .int .u64 a] X fun e w' => (∃ v, e = .returned v) ∧ Vr.IsD (LD g P d.T sv lv') (freeM m0 a) w' ∧ X.grownBy w' (some g) from Vr.dfree_any h a ha64)
    clear ha hm0 hsc ha64 HSE HL1 hlt' hlt2
    go_wp2_with fail
    refine wp_region_any (by kernel_rfl) ?_
    change wpAny _ _ _ _ _ _ _ (World.drew _)
    refine Gl.wpAny_takeOf 0 (some 44) (Value.pointer (some ⟨g, 0, none⟩)) rfl rfl (by kernel_rfl) (by kernel_rfl) (by kernel_rfl) (fun _ _ _ h => h) (Or.inl ⟨by rfl, ?_⟩) ?_
    ·
     intro wx
     go_simp
    try simp only [Act.put, LT1, LT2, LT3]
    refine Gl.wpAny_takeOf 1 (some 45) (Value.pointer (some ⟨g, 0, none⟩)) rfl rfl (by kernel_rfl) (by kernel_rfl) (by kernel_rfl) (fun _ _ _ h => h) (Or.inl ⟨by rfl, ?_⟩) ?_
    ·
     intro wx
     go_simp
    try simp only [Act.put, LT1, LT2, LT3]
    refine Gl.wpAny_takeOf 2 (some 46) (Value.pointer (some ⟨g, 3, none⟩)) rfl rfl (by kernel_rfl) (by kernel_rfl) (by kernel_rfl) (fun _ _ _ h => h) (Or.inl ⟨by rfl, ?_⟩) ?_
    ·
     intro wx
     go_simp
    try simp only [Act.put, LT1, LT2, LT3]
    refine Gl.wpAny_takeOf 3 (some 47) (Value.pointer (some ⟨g, 0, none⟩)) rfl rfl (by kernel_rfl) (by kernel_rfl) (by kernel_rfl) (fun _ _ _ h => h) (Or.inl ⟨by rfl, ?_⟩) ?_
    ·
     intro wx
     go_simp
    try simp only [Act.put, LT1, LT2, LT3]
    refine Gl.wpAny_takeOf 4 (some 48) (.int .i64 n) rfl rfl (by kernel_rfl) (by kernel_rfl) (by kernel_rfl) (fun _ _ _ h => h) (Or.inl ⟨by rfl, ?_⟩) ?_
    ·
     intro wx
     go_simp
    try simp only [Act.put, LT1, LT2, LT3]
    refine Gl.wpAny_takeOf 5 (some 49) (Value.pointer (some ⟨g, 0, none⟩)) rfl rfl (by kernel_rfl) (by kernel_rfl) (by kernel_rfl) (fun _ _ _ h => h) (Or.inl ⟨by rfl, ?_⟩) ?_
    ·
     intro wx
     go_simp
    try simp only [Act.put, LT1, LT2, LT3]
    refine Gl.wpAny_takeOf 6 (some 50) (Value.pointer (some ⟨g, 783, none⟩)) rfl rfl (by kernel_rfl) (by kernel_rfl) (by kernel_rfl) (fun _ _ _ h => h) (Or.inl ⟨by rfl, ?_⟩) ?_
    ·
     intro wx
     go_simp
    try simp only [Act.put, LT1, LT2, LT3]
    refine Gl.wpAny_takeOf 7 (some 51) (Value.pointer (some ⟨g, 783 + n * 31, none⟩)) rfl rfl (by kernel_rfl) (by kernel_rfl) (by kernel_rfl) (fun _ _ _ h => h) (Or.inl ⟨by rfl, ?_⟩) ?_
    ·
     intro wx
     go_simp
    try simp only [Act.put, LT1, LT2, LT3]
    refine Gl.wpAny_takeOf 8 (some 52) (Value.pointer (some ⟨g, 783 + n * 31 + 30, none⟩)) rfl rfl (by kernel_rfl) (by kernel_rfl) (by kernel_rfl) (fun _ _ _ h => h) (Or.inl ⟨by rfl, ?_⟩) ?_
    ·
     intro wx
     go_simp
    try simp only [Act.put, LT1, LT2, LT3]
    refine Gl.wpAny_takeOf 10 (some 54) (.int .i64 i) rfl rfl (by kernel_rfl) (by kernel_rfl) (by kernel_rfl) (fun _ _ _ h => h) (Or.inl ⟨by rfl, ?_⟩) ?_
    ·
     intro wx
     go_simp
    try simp only [Act.put, LT1, LT2, LT3]
    refine Gl.wpAny_only (i := 9) (by kernel_rfl) rfl rfl (fun K hK => ?_)
    go_simp
    refine hK _ _ ?_
    clear hK K
    try simp only [Act.put, LT1, LT2, LT3]
    refine Gl.wpAny_only (i := 11) (by kernel_rfl) rfl rfl (fun K hK => ?_)
    go_simp
    refine hK _ _ ?_
    clear hK K
    try simp only [Act.put, LT1, LT2, LT3]
    refine Gl.wpAny_only (i := 12) (by kernel_rfl) rfl rfl (fun K hK => ?_)
    go_simp
    refine hK _ _ ?_
    clear hK K
    try simp only [Act.put, LT1, LT2, LT3]
    refine Gl.wpAny_only (i := 13) (by kernel_rfl) rfl rfl (fun K hK => ?_)
    refine Gl.wp_callOf 117 #[.pointer (some ⟨g, 3, none⟩), .int .u64 a] (by kernel_rfl) (HM _ HC.out.mem) ?_
    rintro e w1 ⟨⟨v1, rfl⟩, hm1, hg1⟩
    have HD := hide (HC.out.memo hm1 hg1)
    have HF := hide (HG.out.trans (DFr.grown sv lv' hg1))
    clear hm1 hg1
    refine ⟨_, rfl, hK _ _ ?_⟩
    clear hK K
    try simp only [Act.put, LT1, LT2, LT3]
    refine wpAny_done (by kernel_rfl) ?_ _
    rw [← HST.out] at HD
    go_wp2
    go_round
    case rel => first | exact ⟨i + 1, by omega, by go_num, HD, HF⟩ | exact ⟨i + 1, by omega, by omega, HD, HF⟩
    case measure => simp [intOf]; omega
   ·
    as_aux_lemma =>
    have hiL : i = L1 := by omega
    rw [show (se.take i).foldl freeM d.mem = se.foldl freeM d.mem by rw [hiL, HL1.out, List.take_length]] at HC
    have hge : ¬ (i : Int) < L1 := by omega
    obtain ⟨d1, hd1⟩ : ∃ d1 : DWS, d1 = ⟨d.T, se.foldl freeM d.mem, log1⟩ := ⟨_, rfl⟩
    rw [← hd1] at HC HEN
    clear hiL hd1 hsc HSE HL1 HS64 hlt
    obtain ⟨zt, hzt⟩ : ∃ z, z = zDT := ⟨_, rfl⟩
    have HZT := hide hzt
    have hth := HC.out.setTh n hn zt (by rw [hzt]; rfl) (dIdle 0) rfl (fun j hj => by rw [hzt]; exact zDT_at j hj)
    have HTH := hide hth.1
    have HFT := hide (HG.out.trans hth.2)
    clear hzt hth
    by_cases hk3 : kind = 3
    ·
     have k3 : (kind : Int) = 3 := by omega
     have b3 : ((kind : Int) == 3) = true := by simpa using k3
     have HPH := hide (HTH.out.setPhase n 6 hn)
     rw [if_pos hk3] at HEN
     have cph := HTH.out.phase n hn
     have fph := HTH.out.fro (783 + n * 31)
     clear hk3
     go_wp2_with (first | (refine wpList_buildTo rfl 92 _ rfl (some 60) rfl zt (by rw [HZT.out]; kernel_rfl) ?_) | (refine wpList_store_mid (P := Tryz.prog) rfl 92 _ _ rfl g (783 + n * 31) zt rfl rfl (by intro j hj; exact ⟨by rw [HC.out.cell _ (by have h31 : j < 31 := (by rw [HZT.out] at hj; exact hj); omega) (.inr (by omega))]; rfl, HC.out.fro _⟩) (by rw [HZT.out]; exact size_rthread) (by rw [HZT.out]; exact zDT_one) ?_))
     go_end0
     refine ⟨rfl, _, lv', ?_, HFT.out.trans (DFr.set _ lv' _ _ _)⟩
     rw [HEN.out]
     have := HPH.out
     rwa [T_dput, dput_dput, show ({ dIdle 0 with phase := 6 } : DT) = dIdle 6 from rfl] at this
    ·
     have k3 : ¬ (kind : Int) = 3 := by omega
     have b3 : ((kind : Int) == 3) = false := by simpa using k3
     rw [if_neg hk3] at HEN
     clear hk3
     go_wp2_with (first | (refine wpList_buildTo rfl 92 _ rfl (some 60) rfl zt (by rw [HZT.out]; kernel_rfl) ?_) | (refine wpList_store_mid (P := Tryz.prog) rfl 92 _ _ rfl g (783 + n * 31) zt rfl rfl (by intro j hj; exact ⟨by rw [HC.out.cell _ (by have h31 : j < 31 := (by rw [HZT.out] at hj; exact hj); omega) (.inr (by omega))]; rfl, HC.out.fro _⟩) (by rw [HZT.out]; exact size_rthread) (by rw [HZT.out]; exact zDT_one) ?_))
     go_end0
     refine ⟨rfl, _, lv', ?_, HFT.out⟩
     rw [HEN.out]
     exact HTH.out
end Go.Proofs.YtklibmijiecbfaaGreat
