/- The document's exec. -/
import Derived.Test.YtklibmijiecbfaaGreatK21
import Derived.Test.YtklibmijiecbfaaGreatK28
import Derived.Test.YtklibmijiecbfaaGreatK16
import Derived.Test.YtklibmijiecbfaaGreatK26
import Derived.BigQuiet
import Derived.Deep.QuietTactic
namespace Go.Proofs.YtklibmijiecbfaaGreat
open Go.RowKit Mm

theorem follow_pos {m : MS} {k a e : Nat} (h : followF m k a = .inr e) : 1 ≤ e := by
 by_cases hk : k = 2
 ·
  unfold followF at h
  rw [if_pos hk] at h
  split at h
  ·
   cases h
  ·
   cases h; split <;> omega
 ·
  rw [followF_3 hk] at h
  unfold follow3 at h
  split at h
  ·
   cases h; omega
  ·
   split at h
   ·
    cases h
   ·
    cases h; omega
theorem dexecL_leads (n : Nat) (d : DWS) : ∀ (r : List Nat) (v : Nat → VL), dexecL n d r v = if (leadsL d.mem (d.T n).asked.nr (d.T n).now r v).2 = 0 then dend n 1 0 (leadsL d.mem (d.T n).asked.nr (d.T n).now r v).1 d else dend n 2 ((leadsL d.mem (d.T n).asked.nr (d.T n).now r v).2 : Nat) zeroVS d
 | [], v => by
  unfold dexecL leadsL
  rw [if_pos rfl]
 | i :: r, v => by
  unfold dexecL leadsL
  cases hf : followF d.mem (kindAt (d.T n).asked.nr i) ((d.T n).now i) with
  | inl x => exact dexecL_leads n d r (updF v i x)
  | inr e =>
   have := follow_pos hf
   show dend n 2 _ zeroVS d = if e = 0 then _ else dend n 2 (e : Nat) zeroVS d
   rw [if_neg (by omega)]
theorem leadsL_now {m : MS} {nr : Nat} {f h : Nat → Nat} : ∀ (r : List Nat) (v : Nat → VL), (∀ i ∈ r, f i = h i) → leadsL m nr f r v = leadsL m nr h r v
 | [], v, _ => rfl
 | i :: r, v, he => by
  unfold leadsL
  rw [he i (by simp)]
  cases followF m (kindAt nr i) (h i) with
  | inl x => exact leadsL_now r _ fun j hj => he j (by simp [hj])
  | inr e => rfl
theorem regN_nowK (t : DT) (i : Nat) (hi : i < 4) : regN (nowK t) i = t.now i := by
 rcases show i = 0 ∨ i = 1 ∨ i = 2 ∨ i = 3 by omega with rfl | rfl | rfl | rfl <;> rfl
set_option maxHeartbeats 2000000 in
set_option maxRecDepth 20000 in
theorem dexec_any {g : Nat} {P : PV} {d : DWS} {sv : Nat → Value} {lv : Value} {W : World} (n : Nat) (hn : n < 3) (hk : KlOk (nowK (d.T n))) (h : DX g P d sv lv W) (hlog : d.log.length ≤ 1000000) (hs64 : SealOk (d.T n)) :
  Calls Tryz.prog 71 #[.pointer (some ⟨g, 0, none⟩), .int .i64 n] W (DGoes g P (dexec n d) sv lv W) := by
 have j0 : ¬ (n : Int) < 0 := by omega
 have j1 : (0 : Int) ≤ n := by omega
 have j2 : ¬ (2 : Int) < n := by omega
 have j3 : (n : Int) < 3 := by omega
 obtain ⟨nr, hnr⟩ : ∃ a, a = (d.T n).asked.nr := ⟨_, rfl⟩
 have y4 : W.cell? ⟨g, 783 + n * 31 + 8, none⟩ = some (.int .u32 (nr : Nat)) := by rw [h.th n 8 hn (by omega), hnr]; rfl
 have HH := hide h
 by_cases h8 : 8 < nr
 ·
  have n8 : (8 : Int) < nr := by omega
  have HDE := hide (show dexec n d = dend n 2 38 zeroVS d by unfold dexec; rw [← hnr, if_pos h8])
  have HE := dend2 n hn 38 h hlog hs64
  clear h hnr h8
  go_enter Tryz.func71, Tryz.ntmps71
  go_wp2_with fail
  refine HE.mono ?_
  rintro e w' ⟨rfl, h1⟩
  go_wp2
  go_end0
  rw [HDE.out]
  exact ⟨rfl, h1⟩
 ·
  have n8 : ¬ (8 : Int) < nr := by omega
  have h8' : (nowK (d.T n)).nr ≤ 8 := by show (d.T n).asked.nr ≤ 8; omega
  obtain ⟨R, hR⟩ : ∃ R, R = leadsL d.mem (d.T n).asked.nr (d.T n).now (ptsOf (d.T n).asked.nr) fun _ => zeroVL := ⟨_, rfl⟩
  have hRR : R = leadsL d.mem (nowK (d.T n)).nr (regN (nowK (d.T n))) (ptsOf (nowK (d.T n)).nr) fun _ => zeroVL := by
   rw [hR]
   exact (leadsL_now _ _ fun i hi => regN_nowK _ _ (pts_of hi).2.1).symm
  have HDE := hide (show dexec n d = if R.2 = 0 then dend n 1 0 R.1 d else dend n 2 (R.2 : Nat) zeroVS d by unfold dexec; rw [← hnr, if_neg h8, hnr, dexecL_leads, ← hR])
  have HL := fun X (hX : Below W.heap.size W X) => (show Calls Tryz.prog 101 #[.pointer (some ⟨g, 3, none⟩), klV (nowK (d.T n))] X fun e w' => e = .returned (.tuple #[vsV (leadsL d.mem (nowK (d.T n)).nr (regN (nowK (d.T n))) (ptsOf (nowK (d.T n)).nr) fun _ => zeroVL).1, .int .i64 ((leadsL d.mem (nowK (d.T n)).nr (regN (nowK (d.T n))) (ptsOf (nowK (d.T n)).nr) fun _ => zeroVL).2 : Nat)]) ∧ Below X.heap.size X w' from dleads_any (h.mem.on hX) (nowK (d.T n)) hk h8')
  rw [← hRR] at HL
  obtain ⟨vv, f⟩ := R
  simp only at HL HDE
  unfold klV vsV at HL
  obtain ⟨kc, hkc⟩ : ∃ c, c = klC (nowK (d.T n)) := ⟨_, rfl⟩
  obtain ⟨vc, hvc⟩ : ∃ c, c = vsC vv := ⟨_, rfl⟩
  have hks : kc.toList.length = 6 := by rw [hkc]; rfl
  have hvs : vc.size = 12 := by rw [hvc]; rfl
  have hv1 : vc.all (·.oneCell') = true := by rw [hvc]; exact vsC_one _
  rw [← hkc, ← hvc] at HL
  have HB0 := hide ((Below.refl W.heap.size W).drew)
  have HB1 := hide ((box_below W (.cells #[.string ⟨#[]⟩, .int .u32 0, .int .i64 0, .string ⟨#[]⟩, .int .u32 0, .int .i64 0, .string ⟨#[]⟩, .int .u32 0, .int .i64 0, .string ⟨#[]⟩, .int .u32 0, .int .i64 0] 68)).drew)
  have hrng0 : W.drew.rangeAt g (783 + n * 31 + 7) kc.toList := by rw [hkc]; exact (h.on HB0.out).nowr n hn
  have hrng1 : (W.alloc (.cells #[.string ⟨#[]⟩, .int .u32 0, .int .i64 0, .string ⟨#[]⟩, .int .u32 0, .int .i64 0, .string ⟨#[]⟩, .int .u32 0, .int .i64 0, .string ⟨#[]⟩, .int .u32 0, .int .i64 0] 68)).drew.rangeAt g (783 + n * 31 + 7) kc.toList := by rw [hkc]; exact (h.on HB1.out).nowr n hn
  have zb : (W.alloc (.cells #[.string ⟨#[]⟩, .int .u32 0, .int .i64 0, .string ⟨#[]⟩, .int .u32 0, .int .i64 0, .string ⟨#[]⟩, .int .u32 0, .int .i64 0, .string ⟨#[]⟩, .int .u32 0, .int .i64 0] 68)).drew.heap[W.heap.size]? = some (.cells #[.string ⟨#[]⟩, .int .u32 0, .int .i64 0, .string ⟨#[]⟩, .int .u32 0, .int .i64 0, .string ⟨#[]⟩, .int .u32 0, .int .i64 0, .string ⟨#[]⟩, .int .u32 0, .int .i64 0] 68 (0, 0)) := heap_alloc_new W _
  have HE1 := fun X (hX : DX g P d sv lv X) => (show Calls Tryz.prog 94 #[.pointer (some ⟨g, 0, none⟩), .int .i64 n, .int .i64 1, .int .i64 0, .agg (vsC vv)] X (DGoes g P (dend n 1 0 vv d) sv lv X) from dend_any n hn 1 0 vv hX hlog hs64)
  have HE2 := fun X (hX : DX g P d sv lv X) => dend2 n hn (f : Nat) hX hlog hs64
  rw [← hvc] at HE1
  clear h hnr h8 h8' hR hRR hkc hvc hk hs64
  go_enter Tryz.func71, Tryz.ntmps71
  go_wp2_with fail
  go_cut [5, 6] (fun S E wc => E = .int .i64 (f : Nat) ∧ ∃ r5 : Nat, S = .pointer (some ⟨r5, 0, none⟩) ∧ Hid (Below W.heap.size W wc) ∧ Hid (wc.heap[r5]? = some (.cells vc 68 (0, 0))))
  case first => as_aux_lemma =>
   refine wp_region_any (by kernel_rfl) ?_
   change wpAny _ _ _ _ _ _ _ (World.drew _)
   refine Gl.wpAny_takeOf 0 (some 23) (Value.pointer (some ⟨g, 0, none⟩)) rfl rfl (by kernel_rfl) (by kernel_rfl) (by kernel_rfl) (fun _ _ _ h => h) (Or.inl ⟨by rfl, ?_⟩) ?_
   ·
    intro wx
    go_simp
   try simp only [Act.put, LT1, LT2, LT3]
   refine Gl.wpAny_takeOf 1 (some 24) (Value.pointer (some ⟨g, 0, none⟩)) rfl rfl (by kernel_rfl) (by kernel_rfl) (by kernel_rfl) (fun _ _ _ h => h) (Or.inl ⟨by rfl, ?_⟩) ?_
   ·
    intro wx
    go_simp
   try simp only [Act.put, LT1, LT2, LT3]
   refine Gl.wpAny_takeOf 2 (some 25) (Value.pointer (some ⟨g, 3, none⟩)) rfl rfl (by kernel_rfl) (by kernel_rfl) (by kernel_rfl) (fun _ _ _ h => h) (Or.inl ⟨by rfl, ?_⟩) ?_
   ·
    intro wx
    go_simp
   try simp only [Act.put, LT1, LT2, LT3]
   refine Gl.wpAny_takeOf 3 (some 26) (Value.pointer (some ⟨g, 783 + n * 31, none⟩)) rfl rfl (by kernel_rfl) (by kernel_rfl) (by kernel_rfl) (fun _ _ _ h => h) (Or.inl ⟨by rfl, ?_⟩) ?_
   ·
    intro wx
    go_simp
   try simp only [Act.put, LT1, LT2, LT3]
   refine Gl.wpAny_takeOf 4 (some 27) (Value.pointer (some ⟨g, 783 + n * 31, none⟩)) rfl rfl (by kernel_rfl) (by kernel_rfl) (by kernel_rfl) (fun _ _ _ h => h) (Or.inl ⟨by rfl, ?_⟩) ?_
   ·
    intro wx
    go_simp
   try simp only [Act.put, LT1, LT2, LT3]
   refine Gl.wpAny_takeOf 5 (some 28) (Value.pointer (some ⟨g, 783 + n * 31 + 7, none⟩)) rfl rfl (by kernel_rfl) (by kernel_rfl) (by kernel_rfl) (fun _ _ _ h => h) (Or.inl ⟨by rfl, ?_⟩) ?_
   ·
    intro wx
    go_simp
   try simp only [Act.put, LT1, LT2, LT3]
   refine wpAny_two (i := 6) (j := 11) (by kernel_rfl) rfl rfl rfl rfl (fun K hK => ?_) (fun K hK => ?_)
   ·
    refine wp_load_mid 52 (.tmp 28) rfl g (783 + n * 31 + 7) rfl kc.toList _ hrng0 Tryz.underlying52 rfl (by rw [hks]; exact size_call6) ?_
    rw [show kc.toList.toArray = kc from Array.toArray_toList]
    refine hK _ _ ?_
    clear hK K
    try simp only [Act.put, LT1, LT2, LT3]
    refine wpAny_two (i := 7) (j := 11) (by kernel_rfl) rfl rfl rfl rfl (fun K hK => ?_) (fun K hK => ?_)
    ·
     refine Gl.wp_callOf 101 #[.pointer (some ⟨g, 3, none⟩), .agg kc] (by kernel_rfl) (HL W.drew HB0.out) ?_
     rintro e Y ⟨rfl, hY⟩
     have HBY := hide (below_next HB0.out hY)
     clear hY
     refine ⟨_, rfl, hK _ _ ?_⟩
     clear hK K
     try simp only [Act.put, LT1, LT2, LT3]
     refine Gl.wpAny_takeOf 8 (some 22) (.tuple #[.agg vc, .int .i64 (f : Nat)]) rfl rfl (by kernel_rfl) (by kernel_rfl) (by kernel_rfl) (fun _ _ _ h => h) (Or.inl ⟨by rfl, ?_⟩) ?_
     ·
      intro wx
      go_simp
     try simp only [Act.put, LT1, LT2, LT3]
     refine Gl.wpAny_takeOf 9 (some 31) (.agg vc) rfl rfl (by kernel_rfl) (by kernel_rfl) (by kernel_rfl) (fun _ _ _ h => h) (Or.inl ⟨by rfl, ?_⟩) ?_
     ·
      intro wx
      go_simp
     try simp only [Act.put, LT1, LT2, LT3]
     refine Gl.wpAny_takeOf 10 (some 32) (.int .i64 (f : Nat)) rfl rfl (by kernel_rfl) (by kernel_rfl) (by kernel_rfl) (fun _ _ _ h => h) (Or.inl ⟨by rfl, ?_⟩) ?_
     ·
      intro wx
      go_simp
     try simp only [Act.put, LT1, LT2, LT3]
     refine Gl.wpAny_only (i := 11) (by kernel_rfl) rfl rfl (fun K hK => ?_)
     go_simp
     refine hK _ _ ?_
     clear hK K
     try simp only [Act.put, LT1, LT2, LT3]
     have hrz : (Y.alloc (.cells #[.string ⟨#[]⟩, .int .u32 0, .int .i64 0, .string ⟨#[]⟩, .int .u32 0, .int .i64 0, .string ⟨#[]⟩, .int .u32 0, .int .i64 0, .string ⟨#[]⟩, .int .u32 0, .int .i64 0] 68)).heap[Y.heap.size]? = some (.cells #[.string ⟨#[]⟩, .int .u32 0, .int .i64 0, .string ⟨#[]⟩, .int .u32 0, .int .i64 0, .string ⟨#[]⟩, .int .u32 0, .int .i64 0, .string ⟨#[]⟩, .int .u32 0, .int .i64 0] 68 (0, 0)) := heap_alloc_new Y _
     refine Gl.wpAny_only (i := 12) (by kernel_rfl) rfl rfl (fun K hK => ?_)
     refine wp_store_row 68 _ _ rfl Y.heap.size vc rfl rfl 68 _ hrz (by rw [hvs]; exact size_vals) (by rw [hvs]; rfl) hv1 ?_
     refine hK _ _ ?_
     clear hK K
     try simp only [Act.put]
     refine Gl.wpAny_only (i := 13) (by kernel_rfl) rfl rfl (fun K hK => ?_)
     go_simp
     refine hK _ _ ?_
     clear hK K
     try simp only [Act.put, LT1, LT2, LT3]
     refine wpAny_done (by kernel_rfl) ?_ _
     go_wp2_with fail
     go_meet
     case rel => exact ⟨rfl, Y.heap.size, rfl, hide (below_setRow (below_next HBY.out (box_below Y _)) (HBY.out.size) vc), hide (setRow_heap _ _ _ _ _ _ hrz)⟩
    ·
     go_simp
     refine hK _ _ ?_
     clear hK K
     try simp only [Act.put, LT1, LT2, LT3]
     refine Gl.wpAny_only (i := 7) (by kernel_rfl) rfl rfl (fun K hK => ?_)
     refine Gl.wp_callOf 101 #[.pointer (some ⟨g, 3, none⟩), .agg kc] (by kernel_rfl) (HL (W.alloc (.cells #[.string ⟨#[]⟩, .int .u32 0, .int .i64 0, .string ⟨#[]⟩, .int .u32 0, .int .i64 0, .string ⟨#[]⟩, .int .u32 0, .int .i64 0, .string ⟨#[]⟩, .int .u32 0, .int .i64 0] 68)).drew HB1.out) ?_
     rintro e Y ⟨rfl, hY⟩
     have HBY := hide (below_next HB1.out hY)
     have hrz := (hY.block W.heap.size (by show _ < (W.alloc _).heap.size; rw [World.size_alloc]; exact Nat.lt_succ_self _)).trans zb
     clear hY
     refine ⟨_, rfl, hK _ _ ?_⟩
     clear hK K
     try simp only [Act.put, LT1, LT2, LT3]
     refine Gl.wpAny_takeOf 8 (some 22) (.tuple #[.agg vc, .int .i64 (f : Nat)]) rfl rfl (by kernel_rfl) (by kernel_rfl) (by kernel_rfl) (fun _ _ _ h => h) (Or.inl ⟨by rfl, ?_⟩) ?_
     ·
      intro wx
      go_simp
     try simp only [Act.put, LT1, LT2, LT3]
     refine Gl.wpAny_takeOf 9 (some 31) (.agg vc) rfl rfl (by kernel_rfl) (by kernel_rfl) (by kernel_rfl) (fun _ _ _ h => h) (Or.inl ⟨by rfl, ?_⟩) ?_
     ·
      intro wx
      go_simp
     try simp only [Act.put, LT1, LT2, LT3]
     refine Gl.wpAny_takeOf 10 (some 32) (.int .i64 (f : Nat)) rfl rfl (by kernel_rfl) (by kernel_rfl) (by kernel_rfl) (fun _ _ _ h => h) (Or.inl ⟨by rfl, ?_⟩) ?_
     ·
      intro wx
      go_simp
     try simp only [Act.put, LT1, LT2, LT3]
     refine Gl.wpAny_only (i := 12) (by kernel_rfl) rfl rfl (fun K hK => ?_)
     refine wp_store_row 68 _ _ rfl W.heap.size vc rfl rfl 68 _ hrz (by rw [hvs]; exact size_vals) (by rw [hvs]; rfl) hv1 ?_
     refine hK _ _ ?_
     clear hK K
     try simp only [Act.put]
     refine Gl.wpAny_only (i := 13) (by kernel_rfl) rfl rfl (fun K hK => ?_)
     go_simp
     refine hK _ _ ?_
     clear hK K
     try simp only [Act.put, LT1, LT2, LT3]
     refine wpAny_done (by kernel_rfl) ?_ _
     go_wp2_with fail
     go_meet
     case rel => exact ⟨rfl, W.heap.size, rfl, hide (below_setRow HBY.out (Nat.le_refl _) vc), hide (setRow_heap _ _ _ _ _ _ hrz)⟩
   ·
    go_simp
    refine hK _ _ ?_
    clear hK K
    try simp only [Act.put, LT1, LT2, LT3]
    refine Gl.wpAny_only (i := 6) (by kernel_rfl) rfl rfl (fun K hK => ?_)
    refine wp_load_mid 52 (.tmp 28) rfl g (783 + n * 31 + 7) rfl kc.toList _ hrng1 Tryz.underlying52 rfl (by rw [hks]; exact size_call6) ?_
    rw [show kc.toList.toArray = kc from Array.toArray_toList]
    refine hK _ _ ?_
    clear hK K
    try simp only [Act.put, LT1, LT2, LT3]
    refine Gl.wpAny_only (i := 7) (by kernel_rfl) rfl rfl (fun K hK => ?_)
    refine Gl.wp_callOf 101 #[.pointer (some ⟨g, 3, none⟩), .agg kc] (by kernel_rfl) (HL (W.alloc (.cells #[.string ⟨#[]⟩, .int .u32 0, .int .i64 0, .string ⟨#[]⟩, .int .u32 0, .int .i64 0, .string ⟨#[]⟩, .int .u32 0, .int .i64 0, .string ⟨#[]⟩, .int .u32 0, .int .i64 0] 68)).drew HB1.out) ?_
    rintro e Y ⟨rfl, hY⟩
    have HBY := hide (below_next HB1.out hY)
    have hrz := (hY.block W.heap.size (by show _ < (W.alloc _).heap.size; rw [World.size_alloc]; exact Nat.lt_succ_self _)).trans zb
    clear hY
    refine ⟨_, rfl, hK _ _ ?_⟩
    clear hK K
    try simp only [Act.put, LT1, LT2, LT3]
    refine Gl.wpAny_takeOf 8 (some 22) (.tuple #[.agg vc, .int .i64 (f : Nat)]) rfl rfl (by kernel_rfl) (by kernel_rfl) (by kernel_rfl) (fun _ _ _ h => h) (Or.inl ⟨by rfl, ?_⟩) ?_
    ·
     intro wx
     go_simp
    try simp only [Act.put, LT1, LT2, LT3]
    refine Gl.wpAny_takeOf 9 (some 31) (.agg vc) rfl rfl (by kernel_rfl) (by kernel_rfl) (by kernel_rfl) (fun _ _ _ h => h) (Or.inl ⟨by rfl, ?_⟩) ?_
    ·
     intro wx
     go_simp
    try simp only [Act.put, LT1, LT2, LT3]
    refine Gl.wpAny_takeOf 10 (some 32) (.int .i64 (f : Nat)) rfl rfl (by kernel_rfl) (by kernel_rfl) (by kernel_rfl) (fun _ _ _ h => h) (Or.inl ⟨by rfl, ?_⟩) ?_
    ·
     intro wx
     go_simp
    try simp only [Act.put, LT1, LT2, LT3]
    refine Gl.wpAny_only (i := 12) (by kernel_rfl) rfl rfl (fun K hK => ?_)
    refine wp_store_row 68 _ _ rfl W.heap.size vc rfl rfl 68 _ hrz (by rw [hvs]; exact size_vals) (by rw [hvs]; rfl) hv1 ?_
    refine hK _ _ ?_
    clear hK K
    try simp only [Act.put]
    refine Gl.wpAny_only (i := 13) (by kernel_rfl) rfl rfl (fun K hK => ?_)
    go_simp
    refine hK _ _ ?_
    clear hK K
    try simp only [Act.put, LT1, LT2, LT3]
    refine wpAny_done (by kernel_rfl) ?_ _
    go_wp2_with fail
    go_meet
    case rel => exact ⟨rfl, W.heap.size, rfl, hide (below_setRow HBY.out (Nat.le_refl _) vc), hide (setRow_heap _ _ _ _ _ _ hrz)⟩
  case rest => as_aux_lemma =>
   obtain ⟨rfl, r5, rfl, HB, HR⟩ := hcut
   clear hrng0 hrng1 zb HL HB0 HB1 y4
   have HX := hide (HH.out.on HB.out)
   have HFX := hide (DFr.of (g := g) sv lv HB.out)
   by_cases hf : f = 0
   ·
    rw [if_pos hf] at HDE
    have f0 : ¬ (0 : Int) < (f : Nat) := by omega
    have hrow := HR.out
    have HE := HE1 wc HX.out
    clear hf HE2 HE1
    go_wp2_with (refine wpList_load_row rfl 68 (.tmp 5) rfl r5 rfl 68 vc (0, 0) _ hrow Tryz.underlying68 rfl (by rw [hvs]; exact size_vals) ?_)
    refine HE.mono ?_
    rintro e w' hG
    obtain ⟨rfl, h1⟩ := DGoes.from HFX.out hG
    clear hG
    go_wp2
    go_end0
    rw [HDE.out]
    exact ⟨rfl, h1⟩
   ·
    rw [if_neg hf] at HDE
    have f0 : (0 : Int) < (f : Nat) := by omega
    have HE := HE2 wc HX.out
    clear hf HE2 HE1
    go_wp2_with fail
    refine HE.mono ?_
    rintro e w' hG
    obtain ⟨rfl, h1⟩ := DGoes.from HFX.out hG
    clear hG
    go_wp2
    go_end0
    rw [HDE.out]
    exact ⟨rfl, h1⟩
end Go.Proofs.YtklibmijiecbfaaGreat

/- The document's further. -/
namespace Go.Proofs.YtklibmijiecbfaaGreat
open Go.RowKit Mm

set_option maxHeartbeats 4000000 in
set_option maxRecDepth 20000 in
theorem dfurther_any {g : Nat} {P : PV} {d : DWS} {sv : Nat → Value} {lv : Value} {W : World} (n : Nat) (hn : n < 3) (h8 : (d.T n).asked.nr ≤ 8) (har : (d.T n).arg < 4) (h : DX g P d sv lv W) :
  Calls Tryz.prog 95 #[.pointer (some ⟨g, 0, none⟩), .int .i64 n] W (DGoes g P (dfurther n (d.T n) d) sv lv W) := by
 have j0 : ¬ (n : Int) < 0 := by omega
 have j1 : (0 : Int) ≤ n := by omega
 have j2 : ¬ (2 : Int) < n := by omega
 have j3 : (n : Int) < 3 := by omega
 obtain ⟨k, hkk⟩ : ∃ k, k = nowK (d.T n) := ⟨_, rfl⟩
 obtain ⟨ar, har2⟩ : ∃ a, a = (d.T n).arg := ⟨_, rfl⟩
 obtain ⟨np, hnp⟩ : ∃ m, m = nextPt k.nr (ar + 1) := ⟨_, rfl⟩
 have hknr : k.nr = (d.T n).asked.nr := by rw [hkk]; rfl
 have HFU := hide (show dfurther n (d.T n) d = d.put n { d.T n with arg := np, phase := if np = 4 then 3 else (d.T n).phase } by rw [hnp, hknr, har2]; rfl)
 rw [← har2] at har
 rw [← hknr] at h8
 have a0 : IntKind.wrap .i64 ((ar : Int) + 1) = (ar : Int) + 1 := by rw [IntKind.wrap_i64] <;> omega
 have HH := hide (h.on (Below.refl _ W).drew)
 have HF0 := hide (DFr.of (g := g) sv lv (Below.refl _ W).drew)
 obtain ⟨x1, x2, x3, x4, x5, x6⟩ := HH.out.nows n hn
 rw [← hkk] at x1 x2 x3 x4 x5 x6
 have x0 : W.drew.cell? ⟨g, 783 + n * 31 + 17, none⟩ = some (.int .i64 (ar : Nat)) := by rw [HH.out.th n 17 hn (by omega), har2]; rfl
 have HP : Calls Tryz.prog 66 #[klV k, .int .i64 ((ar : Int) + 1)] W.drew fun e w' => e = .returned (.int .i64 (nextPt k.nr (ar + 1) : Nat)) ∧ Below W.drew.heap.size W.drew w' := pointer_any k h8 (ar + 1) (by omega) W.drew
 unfold klV klC at HP
 rw [← hnp] at HP
 have HA : Hid (∀ w2, Below W.drew.heap.size W.drew w2 → DX g P (d.put n { d.T n with arg := np }) sv lv (w2.setCell ⟨g, 783 + n * 31 + 17, none⟩ (.int .i64 (np : Nat))) ∧ DFr g sv lv sv lv W (w2.setCell ⟨g, 783 + n * 31 + 17, none⟩ (.int .i64 (np : Nat)))) := hide (fun w2 hw2 =>
  ⟨(HH.out.on hw2).setT n 17 hn (by omega) _ _ rfl (fun j _ => cellDT_argx _ _ _ j), HF0.out.trans ((DFr.of sv lv hw2).trans (DFr.set sv lv _ _ _))⟩)
 have HCW : Hid (∀ w2, Below W.drew.heap.size W.drew w2 → w2.cell? ⟨g, 783 + n * 31 + 17, none⟩ = some (.int .i64 (ar : Nat)) ∧ w2.frozen? ⟨g, 783 + n * 31 + 17, none⟩ = false) := hide (fun w2 hw2 => ⟨keep_cell hw2 x0, (HH.out.on hw2).fro _⟩)
 clear h hkk har2 hnp hknr h8
 go_enter Tryz.func95, Tryz.ntmps95
 go_wp2_with fail
 refine wp_region_any (by kernel_rfl) ?_
 change wpAny _ _ _ _ _ _ _ (World.drew _)
 refine Gl.wpAny_takeOf 0 (some 10) (Value.pointer (some ⟨g, 783 + n * 31, none⟩)) rfl rfl (by kernel_rfl) (by kernel_rfl) (by kernel_rfl) (fun _ _ _ h => h) (Or.inl ⟨by rfl, ?_⟩) ?_
 ·
  intro wx
  go_simp
 try simp only [Act.put, LT1, LT2, LT3]
 refine Gl.wpAny_takeOf 1 (some 11) (Value.pointer (some ⟨g, 783 + n * 31, none⟩)) rfl rfl (by kernel_rfl) (by kernel_rfl) (by kernel_rfl) (fun _ _ _ h => h) (Or.inl ⟨by rfl, ?_⟩) ?_
 ·
  intro wx
  go_simp
 try simp only [Act.put, LT1, LT2, LT3]
 refine Gl.wpAny_takeOf 2 (some 12) (Value.pointer (some ⟨g, 783 + n * 31, none⟩)) rfl rfl (by kernel_rfl) (by kernel_rfl) (by kernel_rfl) (fun _ _ _ h => h) (Or.inl ⟨by rfl, ?_⟩) ?_
 ·
  intro wx
  go_simp
 try simp only [Act.put, LT1, LT2, LT3]
 refine Gl.wpAny_takeOf 3 (some 13) (Value.pointer (some ⟨g, 783 + n * 31 + 7, none⟩)) rfl rfl (by kernel_rfl) (by kernel_rfl) (by kernel_rfl) (fun _ _ _ h => h) (Or.inl ⟨by rfl, ?_⟩) ?_
 ·
  intro wx
  go_simp
 try simp only [Act.put, LT1, LT2, LT3]
 refine Gl.wpAny_takeOf 5 (some 15) (Value.pointer (some ⟨g, 783 + n * 31, none⟩)) rfl rfl (by kernel_rfl) (by kernel_rfl) (by kernel_rfl) (fun _ _ _ h => h) (Or.inl ⟨by rfl, ?_⟩) ?_
 ·
  intro wx
  go_simp
 try simp only [Act.put, LT1, LT2, LT3]
 refine Gl.wpAny_takeOf 6 (some 16) (Value.pointer (some ⟨g, 783 + n * 31, none⟩)) rfl rfl (by kernel_rfl) (by kernel_rfl) (by kernel_rfl) (fun _ _ _ h => h) (Or.inl ⟨by rfl, ?_⟩) ?_
 ·
  intro wx
  go_simp
 try simp only [Act.put, LT1, LT2, LT3]
 refine Gl.wpAny_takeOf 7 (some 17) (Value.pointer (some ⟨g, 783 + n * 31 + 17, none⟩)) rfl rfl (by kernel_rfl) (by kernel_rfl) (by kernel_rfl) (fun _ _ _ h => h) (Or.inl ⟨by rfl, ?_⟩) ?_
 ·
  intro wx
  go_simp
 try simp only [Act.put, LT1, LT2, LT3]
 refine wpAny_two (i := 4) (j := 8) (by kernel_rfl) rfl rfl rfl rfl (fun K hK => ?_) (fun K hK => ?_)
 ·
  go_simp
  refine hK _ _ ?_
  clear hK K
  try simp only [Act.put, LT1, LT2, LT3]
  refine Gl.wpAny_only (i := 8) (by kernel_rfl) rfl rfl (fun K hK => ?_)
  go_simp
  refine hK _ _ ?_
  clear hK K
  try simp only [Act.put, LT1, LT2, LT3]
  refine Gl.wpAny_takeOf 9 (some 19) (.int .i64 ((ar : Int) + 1)) rfl rfl (by kernel_rfl) (by kernel_rfl) (by kernel_rfl) (fun _ _ _ h => h) (Or.inl ⟨by rfl, ?_⟩) ?_
  ·
   intro wx
   go_simp
  try simp only [Act.put, LT1, LT2, LT3]
  refine Gl.wpAny_only (i := 10) (by kernel_rfl) rfl rfl (fun K hK => ?_)
  refine Gl.wp_callOf 66 #[.agg #[.int .u32 k.arch, .int .u32 k.nr, .int .u64 k.a0, .int .u64 k.a1, .int .u64 k.a2, .int .u64 k.a3], .int .i64 ((ar : Int) + 1)] (by kernel_rfl) HP ?_
  rintro e w2 ⟨rfl, hw2⟩
  obtain ⟨cw, fw⟩ := HCW.out w2 hw2
  refine ⟨_, rfl, hK _ _ ?_⟩
  clear hK K
  try simp only [Act.put, LT1, LT2, LT3]
  refine Gl.wpAny_only (i := 11) (by kernel_rfl) rfl rfl (fun K hK => ?_)
  go_simp
  refine hK _ _ ?_
  clear hK K
  try simp only [Act.put, LT1, LT2, LT3]
  refine Gl.wpAny_only (i := 12) (by kernel_rfl) rfl rfl (fun K hK => ?_)
  go_simp
  refine hK _ _ ?_
  clear hK K
  try simp only [Act.put, LT1, LT2, LT3]
  refine Gl.wpAny_only (i := 13) (by kernel_rfl) rfl rfl (fun K hK => ?_)
  go_simp
  refine hK _ _ ?_
  clear hK K
  try simp only [Act.put, LT1, LT2, LT3]
  refine wpAny_done (by kernel_rfl) ?_ _
  obtain ⟨Z, hZ⟩ : ∃ Z, Z = w2.setCell ⟨g, 783 + n * 31 + 17, none⟩ (.int .i64 (np : Nat)) := ⟨_, rfl⟩
  have HZ := hide (HA.out w2 hw2)
  rw [← hZ] at HZ
  have ca := HZ.out.1.th n 17 hn (by omega)
  rw [T_dput] at ca
  replace ca : Z.cell? ⟨g, 783 + n * 31 + 17, none⟩ = some (.int .i64 (np : Nat)) := ca
  clear hw2 cw fw
  rw [← hZ]
  clear hZ
  by_cases h4 : np = 4
  ·
   have b4 : ((np : Int) == 4) = true := by simpa using (show (np : Int) = 4 by omega)
   have cp := HZ.out.1.phase n hn
   have fp := HZ.out.1.fro (783 + n * 31)
   have HS := hide (HZ.out.1.setPhase n 3 hn)
   rw [T_dput, dput_dput] at HS
   rw [if_pos h4] at HFU
   clear h4
   go_wp2
   go_end0
   refine ⟨rfl, sv, lv, ?_, HZ.out.2.trans (DFr.set sv lv _ _ _)⟩
   rw [HFU.out]
   exact HS.out
  ·
   have b4 : ((np : Int) == 4) = false := by simpa using (show ¬ (np : Int) = 4 by omega)
   rw [if_neg h4] at HFU
   clear h4
   go_wp2
   go_end0
   refine ⟨rfl, sv, lv, ?_, HZ.out.2⟩
   rw [HFU.out]
   exact HZ.out.1
 ·
  go_simp
  refine hK _ _ ?_
  clear hK K
  try simp only [Act.put, LT1, LT2, LT3]
  refine Gl.wpAny_takeOf 9 (some 19) (.int .i64 ((ar : Int) + 1)) rfl rfl (by kernel_rfl) (by kernel_rfl) (by kernel_rfl) (fun _ _ _ h => h) (Or.inl ⟨by rfl, ?_⟩) ?_
  ·
   intro wx
   go_simp
  try simp only [Act.put, LT1, LT2, LT3]
  refine Gl.wpAny_only (i := 4) (by kernel_rfl) rfl rfl (fun K hK => ?_)
  go_simp
  refine hK _ _ ?_
  clear hK K
  try simp only [Act.put, LT1, LT2, LT3]
  refine Gl.wpAny_only (i := 10) (by kernel_rfl) rfl rfl (fun K hK => ?_)
  refine Gl.wp_callOf 66 #[.agg #[.int .u32 k.arch, .int .u32 k.nr, .int .u64 k.a0, .int .u64 k.a1, .int .u64 k.a2, .int .u64 k.a3], .int .i64 ((ar : Int) + 1)] (by kernel_rfl) HP ?_
  rintro e w2 ⟨rfl, hw2⟩
  obtain ⟨cw, fw⟩ := HCW.out w2 hw2
  refine ⟨_, rfl, hK _ _ ?_⟩
  clear hK K
  try simp only [Act.put, LT1, LT2, LT3]
  refine Gl.wpAny_only (i := 11) (by kernel_rfl) rfl rfl (fun K hK => ?_)
  go_simp
  refine hK _ _ ?_
  clear hK K
  try simp only [Act.put, LT1, LT2, LT3]
  refine Gl.wpAny_only (i := 12) (by kernel_rfl) rfl rfl (fun K hK => ?_)
  go_simp
  refine hK _ _ ?_
  clear hK K
  try simp only [Act.put, LT1, LT2, LT3]
  refine Gl.wpAny_only (i := 13) (by kernel_rfl) rfl rfl (fun K hK => ?_)
  go_simp
  refine hK _ _ ?_
  clear hK K
  try simp only [Act.put, LT1, LT2, LT3]
  refine wpAny_done (by kernel_rfl) ?_ _
  obtain ⟨Z, hZ⟩ : ∃ Z, Z = w2.setCell ⟨g, 783 + n * 31 + 17, none⟩ (.int .i64 (np : Nat)) := ⟨_, rfl⟩
  have HZ := hide (HA.out w2 hw2)
  rw [← hZ] at HZ
  have ca := HZ.out.1.th n 17 hn (by omega)
  rw [T_dput] at ca
  replace ca : Z.cell? ⟨g, 783 + n * 31 + 17, none⟩ = some (.int .i64 (np : Nat)) := ca
  clear hw2 cw fw
  rw [← hZ]
  clear hZ
  by_cases h4 : np = 4
  ·
   have b4 : ((np : Int) == 4) = true := by simpa using (show (np : Int) = 4 by omega)
   have cp := HZ.out.1.phase n hn
   have fp := HZ.out.1.fro (783 + n * 31)
   have HS := hide (HZ.out.1.setPhase n 3 hn)
   rw [T_dput, dput_dput] at HS
   rw [if_pos h4] at HFU
   clear h4
   go_wp2
   go_end0
   refine ⟨rfl, sv, lv, ?_, HZ.out.2.trans (DFr.set sv lv _ _ _)⟩
   rw [HFU.out]
   exact HS.out
  ·
   have b4 : ((np : Int) == 4) = false := by simpa using (show ¬ (np : Int) = 4 by omega)
   rw [if_neg h4] at HFU
   clear h4
   go_wp2
   go_end0
   refine ⟨rfl, sv, lv, ?_, HZ.out.2⟩
   rw [HFU.out]
   exact HZ.out.1
end Go.Proofs.YtklibmijiecbfaaGreat

/- A thread's cells set, one by one. -/
namespace Go.Proofs.YtklibmijiecbfaaGreat
open Go.RowKit Mm

theorem cellT_read' (t : TH) (l : W8) (k : Nat) : cellT { t with read := l } k = if k = 16 then .string (bs l) else cellT t k := by
 by_cases h : k = 16
 ·
  subst h; rfl
 ·
  rw [if_neg h]
  unfold cellT
  simp only [if_neg h]
theorem cellT_seen' (t : TH) (x k : Nat) : cellT { t with seen := x } k = if k = 15 then .int .i64 x else cellT t k := by
 by_cases h : k = 15
 ·
  subst h; rfl
 ·
  rw [if_neg h]
  unfold cellT
  simp only [if_neg h]
theorem cellT_phase' (t : TH) (x k : Nat) : cellT { t with phase := x } k = if k = 0 then .int .i64 x else cellT t k := by
 by_cases h : k = 0
 ·
  subst h; rfl
 ·
  rw [if_neg h]
  unfold cellT
  simp only [if_neg h]
theorem cellT_arg' (t : TH) (i x k : Nat) (hi : i < 4) : cellT { t with args := updF t.args i x } k = if k = 7 + i then .int .u64 x else cellT t k := by
 by_cases h : k = 7 + i
 ·
  subst h
  rw [if_pos rfl, cellT_arg _ _ hi]
  show Value.int .u64 ((updF t.args i x i : Nat) : Int) = _
  rw [updF_same]
 ·
  rw [if_neg h]
  unfold cellT
  simp only
  split
  ·
   rfl
  ·
   split
   ·
    rfl
   ·
    split
    ·
     rfl
    ·
     split
     ·
      rfl
     ·
      split
      ·
       rw [updF_other _ _ (by omega)]
      ·
       rfl
theorem cellT_sld' (t : TH) (i k : Nat) (x : Bool) (hi : i < 4) : cellT { t with sld := updF t.sld i x } k = if k = 11 + i then .bool x else cellT t k := by
 by_cases h : k = 11 + i
 ·
  subst h
  rw [if_pos rfl, cellT_sld _ _ hi]
  show Value.bool (updF t.sld i x i) = _
  rw [updF_same]
 ·
  rw [if_neg h]
  unfold cellT
  simp only
  split
  ·
   rfl
  ·
   split
   ·
    rfl
   ·
    split
    ·
     rfl
    ·
     split
     ·
      rfl
     ·
      split
      ·
       rfl
      ·
       split
       ·
        rw [updF_other _ _ (by omega)]
       ·
        rfl
theorem cellT_vals' (t : TH) (i k : Nat) (v : VL) (h : ¬ (17 + i * 3 ≤ k ∧ k < 17 + i * 3 + 3)) : cellT { t with vals := updF t.vals i v } k = cellT t k := by
 by_cases h17 : k < 17
 ·
  rcases show k = 0 ∨ k = 1 ∨ k = 2 ∨ k = 3 ∨ k = 4 ∨ k = 5 ∨ k = 6 ∨ k = 7 ∨ k = 8 ∨ k = 9 ∨ k = 10 ∨ k = 11 ∨ k = 12 ∨ k = 13 ∨ k = 14 ∨ k = 15 ∨ k = 16 by omega with rfl | rfl | rfl | rfl | rfl | rfl | rfl | rfl | rfl | rfl | rfl | rfl | rfl | rfl | rfl | rfl | rfl <;> rfl
 ·
  obtain ⟨d, e, hd, hk⟩ : ∃ d e, e < 3 ∧ k = 17 + d * 3 + e := ⟨(k - 17) / 3, (k - 17) % 3, by omega, by omega⟩
  have hne : d ≠ i := by omega
  have h1 := cellT_val { t with vals := updF t.vals i v } d
  have h2 := cellT_val t d
  rw [show ({ t with vals := updF t.vals i v } : TH).vals d = t.vals d from updF_other _ _ hne] at h1
  subst hk
  rcases show e = 0 ∨ e = 1 ∨ e = 2 by omega with rfl | rfl | rfl
  ·
   exact h1.1.trans h2.1.symm
  ·
   exact h1.2.1.trans h2.2.1.symm
  ·
   exact h1.2.2.trans h2.2.2.symm
theorem WX.setT' {g gm : Nat} {P : PV} {s : WS} {lv : Value} {W : World} {n : Nat} {t0 : TH} (h : WX g gm P (s.put n t0) lv W) (j : Nat) (hn : n < 3) (hj : j < 29) (v : Value) (t : TH) (hc : ∀ k, cellT t k = if k = j then v else cellT t0 k) : WX g gm P (s.put n t) lv (W.setCell ⟨g, 4 + n * 29 + j, none⟩ v) := by
 have h1 := h.setT n j hn hj v t (fun k _ => by rw [T_put]; exact hc k)
 rw [put_put] at h1
 exact h1
theorem WX.setVal {g gm : Nat} {P : PV} {s : WS} {lv : Value} {W : World} {n : Nat} {t0 : TH} (h : WX g gm P (s.put n t0) lv W) (i : Nat) (hn : n < 3) (hi : i < 4) (v : VL) : WX g gm P (s.put n { t0 with vals := updF t0.vals i v }) lv (W.setCells g (4 + n * 29 + 17 + i * 3) (vlC v).toList) := by
 rw [setCells_VA g 79 _ _ _ W h.row]
 have h1 := h.rows (updF (s.put n t0).T n { t0 with vals := updF t0.vals i v }) (updW_T P gm (s.put n t0).T lv n hn { t0 with vals := updF t0.vals i v } (ovr (cellW P gm (s.put n t0).T lv) (4 + n * 29 + 17 + i * 3) (vlC v).toList) (fun j hj => ?_) fun k hk => ?_)
 ·
  have h2 : ({ s.put n t0 with T := updF (s.put n t0).T n { t0 with vals := updF t0.vals i v } } : WS) = s.put n { t0 with vals := updF t0.vals i v } := by
   unfold WS.put
   simp only [updF_again]
  rw [h2] at h1
  exact h1
 ·
  have hl : (vlC v).toList.length = 3 := rfl
  unfold ovr
  rw [hl]
  by_cases hr : 17 + i * 3 ≤ j ∧ j < 17 + i * 3 + 3
  ·
   rw [if_pos (by omega)]
   have hv := cellT_val { t0 with vals := updF t0.vals i v } i
   simp only [updF_same] at hv
   rcases show j = 17 + i * 3 ∨ j = 17 + i * 3 + 1 ∨ j = 17 + i * 3 + 2 by omega with rfl | rfl | rfl
   ·
    rw [hv.1, show 4 + n * 29 + (17 + i * 3) - (4 + n * 29 + 17 + i * 3) = 0 by omega]; rfl
   ·
    rw [hv.2.1, show 4 + n * 29 + (17 + i * 3 + 1) - (4 + n * 29 + 17 + i * 3) = 1 by omega]; rfl
   ·
    rw [hv.2.2, show 4 + n * 29 + (17 + i * 3 + 2) - (4 + n * 29 + 17 + i * 3) = 2 by omega]; rfl
  ·
   rw [if_neg (by omega), cellW_T _ _ _ _ _ _ hn hj, T_put]
   exact (cellT_vals' t0 i j v hr).symm
 ·
  unfold ovr
  rw [show (vlC v).toList.length = 3 from rfl, if_neg]
  intro hh
  exact hk (k - (4 + n * 29)) (by omega) (by omega)
theorem freeT_congr {t u : TH} (m : MS) (h1 : t.sld = u.sld) (h2 : t.args = u.args) : ∀ i, freeT t m i = freeT u m i
 | 0 => rfl
 | i + 1 => by
  unfold freeT
  rw [freeT_congr m h1 h2 i, h1, h2]
theorem end_put {n : Nat} {s : WS} {t : TH} (kind : Nat) (errno : Int) (v : VS) (h1 : t.sld = (s.T n).sld) (h2 : t.args = (s.T n).args) (h3 : t.call = (s.T n).call) : endS n kind errno v (s.put n t) = endS n kind errno v s := by
 unfold endS
 rw [T_put, h3, freeT_congr _ h1 h2]
 unfold WS.put
 simp only [updF_again]
end Go.Proofs.YtklibmijiecbfaaGreat

/- snap. -/
namespace Go.Proofs.YtklibmijiecbfaaGreat
open Go.RowKit Mm

structure SX (g gm : Nat) (P : PV) (s : WS) (lv : Value) (oa : Option Addr) (l : List Nat) (ka : Array Value) (r6 : Nat) (W X : World) : Prop where
 ward : WX g gm P s lv X
 ints : IsInts W.heap.size oa l X
 box : X.heap[r6]? = some (.cells ka 126 (0, 0))
 bd : W.heap.size ≤ r6
 fr : Below W.heap.size W X
theorem SX.of {g gm : Nat} {P : PV} {s : WS} {lv : Value} {oa : Option Addr} {l : List Nat} (ka : Array Value) {W Y : World} (z : Array Value) (h : WX g gm P s lv W) (hi : IsInts W.heap.size oa l Y) (hb : Below W.heap.size W Y) : SX g gm P s lv oa l ka Y.heap.size W ((Y.alloc (.cells z 126)).setRow Y.heap.size ka) := by
 have h1 : Below Y.heap.size Y ((Y.alloc (.cells z 126)).setRow Y.heap.size ka) := below_setRow (box_below Y _) (Nat.le_refl _) _
 exact ⟨(h.on hb).on h1, hi.on h1, setRow_heap _ _ _ _ _ _ (heap_alloc_new Y _), hb.size, below_next hb h1⟩
theorem SX.on {g gm : Nat} {P : PV} {s : WS} {lv : Value} {oa : Option Addr} {l : List Nat} {ka : Array Value} {r6 : Nat} {W X Z : World} (h : SX g gm P s lv oa l ka r6 W X) (hb : Below X.heap.size X Z) : SX g gm P s lv oa l ka r6 W Z :=
 ⟨h.ward.on hb, h.ints.on hb, (hb.block _ (Array.getElem?_eq_some_iff.1 h.box).1).trans h.box, h.bd, below_next h.fr hb⟩
theorem lrow_cells {W : World} {r : Nat} (h : W.heap[r]? = some (.cells #[.string ⟨#[]⟩, .int .u32 0, .int .i64 0] 66 (0, 0))) :
  (W.cell? ⟨r, 0, none⟩ = some (.string ⟨#[]⟩) ∧ W.cell? ⟨r, 1, none⟩ = some (.int .u32 0) ∧ W.cell? ⟨r, 2, none⟩ = some (.int .i64 0)) ∧ W.frozen? ⟨r, 0, none⟩ = false ∧ W.frozen? ⟨r, 1, none⟩ = false ∧ W.frozen? ⟨r, 2, none⟩ = false :=
 ⟨⟨cell_of_row _ _ 0 _ _ _ h, cell_of_row _ _ 1 _ _ _ h, cell_of_row _ _ 2 _ _ _ h⟩, frozen_of_row _ _ 0 _ _ h, frozen_of_row _ _ 1 _ _ h, frozen_of_row _ _ 2 _ _ h⟩
theorem lset3 {W : World} {r : Nat} (h : W.heap[r]? = some (.cells #[.string ⟨#[]⟩, .int .u32 0, .int .i64 0] 66 (0, 0))) (v0 v1 v2 : Value) :
  ((W.setCell ⟨r, 0, none⟩ v0).setCell ⟨r, 1, none⟩ v1).setCell ⟨r, 2, none⟩ v2 = W.setRow r #[v0, v1, v2] := by
 rw [setCell_eq_setRow _ _ 0 _ _ _ _ h, setCell_eq_setRow _ _ 1 _ _ _ _ (setRow_heap _ _ _ _ _ _ h), setRow_again _ _ _ _ _ _ h, setCell_eq_setRow _ _ 2 _ _ _ _ (setRow_heap _ _ _ _ _ _ h), setRow_again _ _ _ _ _ _ h]
 rfl
theorem conv_one (W : World) (r x : Nat) (hx : x < 256) (hc : W.cell? ⟨r, 0, none⟩ = some (.int .u8 x)) : (convert 132 9 (.slice (some ⟨r, 0, none⟩) 1 1)).run Tryz.prog W = .ok (.string (bs [UInt8.ofNat x])) W :=
 run_convert_bytes_back (P := Tryz.prog) W 132 9 5 ⟨r, 0, none⟩ 1 [UInt8.ofNat x] Tryz.underlying132 Tryz.underlying5 Tryz.underlying9 fun j hj => by
  obtain rfl : j = 0 := by simpa using hj
  rw [show (⟨r, 0, none⟩ : Addr).add 0 = ⟨r, 0, none⟩ from rfl, hc]
  show _ = some (Value.int .u8 ((UInt8.ofNat x).toNat : Int))
  rw [UInt8.toNat_ofNat', Nat.mod_eq_of_lt (show x < 2 ^ 8 from hx)]
theorem SX.fr' {g gm : Nat} {P : PV} {s s' : WS} {lv lv' : Value} {oa : Option Addr} {l : List Nat} {ka : Array Value} {r6 : Nat} {W X Z : World} (h : SX g gm P s lv oa l ka r6 W X) (h0 : WX g gm P s lv W) (hw : WX g gm P s' lv' Z) (hf : Fr g gm lv lv' X Z) : WX g gm P s' lv' Z ∧ IsInts W.heap.size oa l Z ∧ Z.heap[r6]? = some (.cells ka 126 (0, 0)) ∧ Fr g gm lv lv' W Z := by
 have hg := h0.glt
 have hm := h0.mlt
 have hl : ∀ k, W.heap.size ≤ k → lv.ownBlock ≠ some k := fun k hk e => by have := (h0.own.lt k e).2; omega
 have hb := h.bd
 exact ⟨hw, h.ints.heap (fun k h1 h2 => hf.block k h2 (by omega) (by omega) (hl k h1)) hf.size, (hf.block r6 (Array.getElem?_eq_some_iff.1 h.box).1 (by omega) (by omega) (hl r6 hb)).trans h.box, (Fr.of lv h.fr).trans hf⟩
end Go.Proofs.YtklibmijiecbfaaGreat
