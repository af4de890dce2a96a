/- The document's exec. -/
import Derived.Test.YtklibmijiecbfaaGreatK10
import Derived.Test.YtklibmijiecbfaaGreatK12
import Derived.Test.YtklibmijiecbfaaGreatK9
import Derived.BigQuiet
import Derived.Deep.QuietTactic
namespace Go.Proofs.YtklibmijiecbfaaGreat
open Go.RowKit Mm

theorem follow_pos {m : MS} {k a e : Nat} (h : followF m k a = .inr e) : 1 ≤ e := by
  by_cases hk : k = 2
  · unfold followF at h
    rw [if_pos hk] at h
    split at h
    · cases h
    · cases h; split <;> omega
  · rw [followF_3 hk] at h
    unfold follow3 at h
    split at h
    · cases h; omega
    · split at h
      · cases h
      · cases h; omega
theorem dexecL_leads (n : Nat) (d : DWS) : ∀ (r : List Nat) (v : Nat → VL), dexecL n d r v = if (leadsL d.mem (d.T n).asked.nr (d.T n).now r v).2 = 0 then dend n 1 0 (leadsL d.mem (d.T n).asked.nr (d.T n).now r v).1 d else dend n 2 ((leadsL d.mem (d.T n).asked.nr (d.T n).now r v).2 : Nat) zeroVS d
  | [], v => by
    unfold dexecL leadsL
    rw [if_pos rfl]
  | i :: r, v => by
    unfold dexecL leadsL
    cases hf : followF d.mem (kindAt (d.T n).asked.nr i) ((d.T n).now i) with
    | inl x => exact dexecL_leads n d r (updF v i x)
    | inr e =>
      have := follow_pos hf
      show dend n 2 _ zeroVS d = if e = 0 then _ else dend n 2 (e : Nat) zeroVS d
      rw [if_neg (by omega)]
theorem leadsL_now {m : MS} {nr : Nat} {f h : Nat → Nat} : ∀ (r : List Nat) (v : Nat → VL), (∀ i ∈ r, f i = h i) → leadsL m nr f r v = leadsL m nr h r v
  | [], v, _ => rfl
  | i :: r, v, he => by
    unfold leadsL
    rw [he i (by simp)]
    cases followF m (kindAt nr i) (h i) with
    | inl x => exact leadsL_now r _ fun j hj => he j (by simp [hj])
    | inr e => rfl
theorem regN_nowK (t : DT) (i : Nat) (hi : i < 4) : regN (nowK t) i = t.now i := by
  rcases show i = 0 ∨ i = 1 ∨ i = 2 ∨ i = 3 by omega with rfl | rfl | rfl | rfl <;> rfl
set_option maxHeartbeats 2000000 in
set_option maxRecDepth 20000 in
theorem dexec_any {g : Nat} {P : PV} {d : DWS} {sv : Nat → Value} {lv : Value} {W : World} (n : Nat) (hn : n < 3) (hk : KlOk (nowK (d.T n))) (h : DX g P d sv lv W) (hlog : d.log.length ≤ 1000000) (hs64 : SealOk (d.T n)) :
    Calls Tryz.prog 71 #[.pointer (some ⟨g, 0, none⟩), .int .i64 n] W (DGoes g P (dexec n d) sv lv W) := by
  have j0 : ¬ (n : Int) < 0 := by omega
  have j1 : (0 : Int) ≤ n := by omega
  have j2 : ¬ (2 : Int) < n := by omega
  have j3 : (n : Int) < 3 := by omega
  obtain ⟨nr, hnr⟩ : ∃ a, a = (d.T n).asked.nr := ⟨_, rfl⟩
  have y4 : W.cell? ⟨g, 783 + n * 31 + 8, none⟩ = some (.int .u32 (nr : Nat)) := by rw [h.th n 8 hn (by omega), hnr]; rfl
  have HH := hide h
  by_cases h8 : 8 < nr
  · have n8 : (8 : Int) < nr := by omega
    have HDE := hide (show dexec n d = dend n 2 38 zeroVS d by unfold dexec; rw [← hnr, if_pos h8])
    have HE := dend2 n hn 38 h hlog hs64
    clear h hnr h8
    go_enter Tryz.func71, Tryz.ntmps71
    go_wp2_with fail
    refine HE.mono ?_
    rintro e w' ⟨rfl, h1⟩
    go_wp2
    go_end0
    rw [HDE.out]
    exact ⟨rfl, h1⟩
  · have n8 : ¬ (8 : Int) < nr := by omega
    have h8' : (nowK (d.T n)).nr ≤ 8 := by show (d.T n).asked.nr ≤ 8; omega
    obtain ⟨R, hR⟩ : ∃ R, R = leadsL d.mem (d.T n).asked.nr (d.T n).now (ptsOf (d.T n).asked.nr) fun _ => zeroVL := ⟨_, rfl⟩
    have hRR : R = leadsL d.mem (nowK (d.T n)).nr (regN (nowK (d.T n))) (ptsOf (nowK (d.T n)).nr) fun _ => zeroVL := by
      rw [hR]
      exact (leadsL_now _ _ fun i hi => regN_nowK _ _ (pts_of hi).2.1).symm
    have HDE := hide (show dexec n d = if R.2 = 0 then dend n 1 0 R.1 d else dend n 2 (R.2 : Nat) zeroVS d by unfold dexec; rw [← hnr, if_neg h8, hnr, dexecL_leads, ← hR])
    have HL := fun X (hX : Below W.heap.size W X) => (show Calls Tryz.prog 101 #[.pointer (some ⟨g, 3, none⟩), klV (nowK (d.T n))] X fun e w' => e = .returned (.tuple #[vsV (leadsL d.mem (nowK (d.T n)).nr (regN (nowK (d.T n))) (ptsOf (nowK (d.T n)).nr) fun _ => zeroVL).1, .int .i64 ((leadsL d.mem (nowK (d.T n)).nr (regN (nowK (d.T n))) (ptsOf (nowK (d.T n)).nr) fun _ => zeroVL).2 : Nat)]) ∧ Below X.heap.size X w' from dleads_any (h.mem.on hX) (nowK (d.T n)) hk h8')
    rw [← hRR] at HL
    obtain ⟨vv, f⟩ := R
    simp only at HL HDE
    unfold klV vsV at HL
    obtain ⟨kc, hkc⟩ : ∃ c, c = klC (nowK (d.T n)) := ⟨_, rfl⟩
    obtain ⟨vc, hvc⟩ : ∃ c, c = vsC vv := ⟨_, rfl⟩
    have hks : kc.toList.length = 6 := by rw [hkc]; rfl
    have hvs : vc.size = 12 := by rw [hvc]; rfl
    have hv1 : vc.all (·.oneCell') = true := by rw [hvc]; exact vsC_one _
    rw [← hkc, ← hvc] at HL
    have HB0 := hide ((Below.refl W.heap.size W).drew)
    have HB1 := hide ((box_below W (.cells #[.string ⟨#[]⟩, .int .u32 0, .int .i64 0, .string ⟨#[]⟩, .int .u32 0, .int .i64 0, .string ⟨#[]⟩, .int .u32 0, .int .i64 0, .string ⟨#[]⟩, .int .u32 0, .int .i64 0] 68)).drew)
    have hrng0 : W.drew.rangeAt g (783 + n * 31 + 7) kc.toList := by rw [hkc]; exact (h.on HB0.out).nowr n hn
    have hrng1 : (W.alloc (.cells #[.string ⟨#[]⟩, .int .u32 0, .int .i64 0, .string ⟨#[]⟩, .int .u32 0, .int .i64 0, .string ⟨#[]⟩, .int .u32 0, .int .i64 0, .string ⟨#[]⟩, .int .u32 0, .int .i64 0] 68)).drew.rangeAt g (783 + n * 31 + 7) kc.toList := by rw [hkc]; exact (h.on HB1.out).nowr n hn
    have zb : (W.alloc (.cells #[.string ⟨#[]⟩, .int .u32 0, .int .i64 0, .string ⟨#[]⟩, .int .u32 0, .int .i64 0, .string ⟨#[]⟩, .int .u32 0, .int .i64 0, .string ⟨#[]⟩, .int .u32 0, .int .i64 0] 68)).drew.heap[W.heap.size]? = some (.cells #[.string ⟨#[]⟩, .int .u32 0, .int .i64 0, .string ⟨#[]⟩, .int .u32 0, .int .i64 0, .string ⟨#[]⟩, .int .u32 0, .int .i64 0, .string ⟨#[]⟩, .int .u32 0, .int .i64 0] 68 (0, 0)) := heap_alloc_new W _
    have HE1 := fun X (hX : DX g P d sv lv X) => (show Calls Tryz.prog 94 #[.pointer (some ⟨g, 0, none⟩), .int .i64 n, .int .i64 1, .int .i64 0, .agg (vsC vv)] X (DGoes g P (dend n 1 0 vv d) sv lv X) from dend_any n hn 1 0 vv hX hlog hs64)
    have HE2 := fun X (hX : DX g P d sv lv X) => dend2 n hn (f : Nat) hX hlog hs64
    rw [← hvc] at HE1
    clear h hnr h8 h8' hR hRR hkc hvc hk hs64
    go_enter Tryz.func71, Tryz.ntmps71
    go_wp2_with fail
    go_cut [5, 6] (fun S E wc => E = .int .i64 (f : Nat) ∧ ∃ r5 : Nat, S = .pointer (some ⟨r5, 0, none⟩) ∧ Hid (Below W.heap.size W wc) ∧ Hid (wc.heap[r5]? = some (.cells vc 68 (0, 0))))
    case first => as_aux_lemma =>
      refine wp_region_any (by kernel_rfl) ?_
      change wpAny _ _ _ _ _ _ _ (World.drew _)
      refine Gl.wpAny_takeOf 0 (some 23) (Value.pointer (some ⟨g, 0, none⟩)) rfl rfl (by kernel_rfl) (by kernel_rfl) (by kernel_rfl) (fun _ _ _ h => h) (Or.inl ⟨by rfl, ?_⟩) ?_
      · intro wx
        go_simp
      try simp only [Act.put, List.setIfInBounds_toArray, List.set_cons_zero, List.set_cons_succ]
      refine Gl.wpAny_takeOf 1 (some 24) (Value.pointer (some ⟨g, 0, none⟩)) rfl rfl (by kernel_rfl) (by kernel_rfl) (by kernel_rfl) (fun _ _ _ h => h) (Or.inl ⟨by rfl, ?_⟩) ?_
      · intro wx
        go_simp
      try simp only [Act.put, List.setIfInBounds_toArray, List.set_cons_zero, List.set_cons_succ]
      refine Gl.wpAny_takeOf 2 (some 25) (Value.pointer (some ⟨g, 3, none⟩)) rfl rfl (by kernel_rfl) (by kernel_rfl) (by kernel_rfl) (fun _ _ _ h => h) (Or.inl ⟨by rfl, ?_⟩) ?_
      · intro wx
        go_simp
      try simp only [Act.put, List.setIfInBounds_toArray, List.set_cons_zero, List.set_cons_succ]
      refine Gl.wpAny_takeOf 3 (some 26) (Value.pointer (some ⟨g, 783 + n * 31, none⟩)) rfl rfl (by kernel_rfl) (by kernel_rfl) (by kernel_rfl) (fun _ _ _ h => h) (Or.inl ⟨by rfl, ?_⟩) ?_
      · intro wx
        go_simp
      try simp only [Act.put, List.setIfInBounds_toArray, List.set_cons_zero, List.set_cons_succ]
      refine Gl.wpAny_takeOf 4 (some 27) (Value.pointer (some ⟨g, 783 + n * 31, none⟩)) rfl rfl (by kernel_rfl) (by kernel_rfl) (by kernel_rfl) (fun _ _ _ h => h) (Or.inl ⟨by rfl, ?_⟩) ?_
      · intro wx
        go_simp
      try simp only [Act.put, List.setIfInBounds_toArray, List.set_cons_zero, List.set_cons_succ]
      refine Gl.wpAny_takeOf 5 (some 28) (Value.pointer (some ⟨g, 783 + n * 31 + 7, none⟩)) rfl rfl (by kernel_rfl) (by kernel_rfl) (by kernel_rfl) (fun _ _ _ h => h) (Or.inl ⟨by rfl, ?_⟩) ?_
      · intro wx
        go_simp
      try simp only [Act.put, List.setIfInBounds_toArray, List.set_cons_zero, List.set_cons_succ]
      refine wpAny_two (i := 6) (j := 11) (by kernel_rfl) rfl rfl rfl rfl (fun K hK => ?_) (fun K hK => ?_)
      · refine wp_load_mid 52 (.tmp 28) rfl g (783 + n * 31 + 7) rfl kc.toList _ hrng0 Tryz.underlying52 rfl (by rw [hks]; exact size_call6) ?_
        rw [show kc.toList.toArray = kc from Array.toArray_toList]
        refine hK _ _ ?_
        clear hK K
        try simp only [Act.put, List.setIfInBounds_toArray, List.set_cons_zero, List.set_cons_succ]
        refine wpAny_two (i := 7) (j := 11) (by kernel_rfl) rfl rfl rfl rfl (fun K hK => ?_) (fun K hK => ?_)
        · refine Gl.wp_callOf 101 #[.pointer (some ⟨g, 3, none⟩), .agg kc] (by kernel_rfl) (HL W.drew HB0.out) ?_
          rintro e Y ⟨rfl, hY⟩
          have HBY := hide (below_next HB0.out hY)
          clear hY
          refine ⟨_, rfl, hK _ _ ?_⟩
          clear hK K
          try simp only [Act.put, List.setIfInBounds_toArray, List.set_cons_zero, List.set_cons_succ]
          refine Gl.wpAny_takeOf 8 (some 22) (.tuple #[.agg vc, .int .i64 (f : Nat)]) rfl rfl (by kernel_rfl) (by kernel_rfl) (by kernel_rfl) (fun _ _ _ h => h) (Or.inl ⟨by rfl, ?_⟩) ?_
          · intro wx
            go_simp
          try simp only [Act.put, List.setIfInBounds_toArray, List.set_cons_zero, List.set_cons_succ]
          refine Gl.wpAny_takeOf 9 (some 31) (.agg vc) rfl rfl (by kernel_rfl) (by kernel_rfl) (by kernel_rfl) (fun _ _ _ h => h) (Or.inl ⟨by rfl, ?_⟩) ?_
          · intro wx
            go_simp
          try simp only [Act.put, List.setIfInBounds_toArray, List.set_cons_zero, List.set_cons_succ]
          refine Gl.wpAny_takeOf 10 (some 32) (.int .i64 (f : Nat)) rfl rfl (by kernel_rfl) (by kernel_rfl) (by kernel_rfl) (fun _ _ _ h => h) (Or.inl ⟨by rfl, ?_⟩) ?_
          · intro wx
            go_simp
          try simp only [Act.put, List.setIfInBounds_toArray, List.set_cons_zero, List.set_cons_succ]
          refine Gl.wpAny_only (i := 11) (by kernel_rfl) rfl rfl (fun K hK => ?_)
          go_simp
          refine hK _ _ ?_
          clear hK K
          try simp only [Act.put, List.setIfInBounds_toArray, List.set_cons_zero, List.set_cons_succ]
          have hrz : (Y.alloc (.cells #[.string ⟨#[]⟩, .int .u32 0, .int .i64 0, .string ⟨#[]⟩, .int .u32 0, .int .i64 0, .string ⟨#[]⟩, .int .u32 0, .int .i64 0, .string ⟨#[]⟩, .int .u32 0, .int .i64 0] 68)).heap[Y.heap.size]? = some (.cells #[.string ⟨#[]⟩, .int .u32 0, .int .i64 0, .string ⟨#[]⟩, .int .u32 0, .int .i64 0, .string ⟨#[]⟩, .int .u32 0, .int .i64 0, .string ⟨#[]⟩, .int .u32 0, .int .i64 0] 68 (0, 0)) := heap_alloc_new Y _
          refine Gl.wpAny_only (i := 12) (by kernel_rfl) rfl rfl (fun K hK => ?_)
          refine wp_store_row 68 _ _ rfl Y.heap.size vc rfl rfl 68 _ hrz (by rw [hvs]; exact size_vals) (by rw [hvs]; rfl) hv1 ?_
          refine hK _ _ ?_
          clear hK K
          try simp only [Act.put]
          refine Gl.wpAny_only (i := 13) (by kernel_rfl) rfl rfl (fun K hK => ?_)
          go_simp
          refine hK _ _ ?_
          clear hK K
          try simp only [Act.put, List.setIfInBounds_toArray, List.set_cons_zero, List.set_cons_succ]
          refine wpAny_done (by kernel_rfl) ?_ _
          go_wp2_with fail
          go_meet
          case rel => exact ⟨rfl, Y.heap.size, rfl, hide (below_setRow (below_next HBY.out (box_below Y _)) (HBY.out.size) vc), hide (setRow_heap _ _ _ _ _ _ hrz)⟩
        · go_simp
          refine hK _ _ ?_
          clear hK K
          try simp only [Act.put, List.setIfInBounds_toArray, List.set_cons_zero, List.set_cons_succ]
          refine Gl.wpAny_only (i := 7) (by kernel_rfl) rfl rfl (fun K hK => ?_)
          refine Gl.wp_callOf 101 #[.pointer (some ⟨g, 3, none⟩), .agg kc] (by kernel_rfl) (HL (W.alloc (.cells #[.string ⟨#[]⟩, .int .u32 0, .int .i64 0, .string ⟨#[]⟩, .int .u32 0, .int .i64 0, .string ⟨#[]⟩, .int .u32 0, .int .i64 0, .string ⟨#[]⟩, .int .u32 0, .int .i64 0] 68)).drew HB1.out) ?_
          rintro e Y ⟨rfl, hY⟩
          have HBY := hide (below_next HB1.out hY)
          have hrz := (hY.block W.heap.size (by show _ < (W.alloc _).heap.size; rw [World.size_alloc]; exact Nat.lt_succ_self _)).trans zb
          clear hY
          refine ⟨_, rfl, hK _ _ ?_⟩
          clear hK K
          try simp only [Act.put, List.setIfInBounds_toArray, List.set_cons_zero, List.set_cons_succ]
          refine Gl.wpAny_takeOf 8 (some 22) (.tuple #[.agg vc, .int .i64 (f : Nat)]) rfl rfl (by kernel_rfl) (by kernel_rfl) (by kernel_rfl) (fun _ _ _ h => h) (Or.inl ⟨by rfl, ?_⟩) ?_
          · intro wx
            go_simp
          try simp only [Act.put, List.setIfInBounds_toArray, List.set_cons_zero, List.set_cons_succ]
          refine Gl.wpAny_takeOf 9 (some 31) (.agg vc) rfl rfl (by kernel_rfl) (by kernel_rfl) (by kernel_rfl) (fun _ _ _ h => h) (Or.inl ⟨by rfl, ?_⟩) ?_
          · intro wx
            go_simp
          try simp only [Act.put, List.setIfInBounds_toArray, List.set_cons_zero, List.set_cons_succ]
          refine Gl.wpAny_takeOf 10 (some 32) (.int .i64 (f : Nat)) rfl rfl (by kernel_rfl) (by kernel_rfl) (by kernel_rfl) (fun _ _ _ h => h) (Or.inl ⟨by rfl, ?_⟩) ?_
          · intro wx
            go_simp
          try simp only [Act.put, List.setIfInBounds_toArray, List.set_cons_zero, List.set_cons_succ]
          refine Gl.wpAny_only (i := 12) (by kernel_rfl) rfl rfl (fun K hK => ?_)
          refine wp_store_row 68 _ _ rfl W.heap.size vc rfl rfl 68 _ hrz (by rw [hvs]; exact size_vals) (by rw [hvs]; rfl) hv1 ?_
          refine hK _ _ ?_
          clear hK K
          try simp only [Act.put]
          refine Gl.wpAny_only (i := 13) (by kernel_rfl) rfl rfl (fun K hK => ?_)
          go_simp
          refine hK _ _ ?_
          clear hK K
          try simp only [Act.put, List.setIfInBounds_toArray, List.set_cons_zero, List.set_cons_succ]
          refine wpAny_done (by kernel_rfl) ?_ _
          go_wp2_with fail
          go_meet
          case rel => exact ⟨rfl, W.heap.size, rfl, hide (below_setRow HBY.out (Nat.le_refl _) vc), hide (setRow_heap _ _ _ _ _ _ hrz)⟩
      · go_simp
        refine hK _ _ ?_
        clear hK K
        try simp only [Act.put, List.setIfInBounds_toArray, List.set_cons_zero, List.set_cons_succ]
        refine Gl.wpAny_only (i := 6) (by kernel_rfl) rfl rfl (fun K hK => ?_)
        refine wp_load_mid 52 (.tmp 28) rfl g (783 + n * 31 + 7) rfl kc.toList _ hrng1 Tryz.underlying52 rfl (by rw [hks]; exact size_call6) ?_
        rw [show kc.toList.toArray = kc from Array.toArray_toList]
        refine hK _ _ ?_
        clear hK K
        try simp only [Act.put, List.setIfInBounds_toArray, List.set_cons_zero, List.set_cons_succ]
        refine Gl.wpAny_only (i := 7) (by kernel_rfl) rfl rfl (fun K hK => ?_)
        refine Gl.wp_callOf 101 #[.pointer (some ⟨g, 3, none⟩), .agg kc] (by kernel_rfl) (HL (W.alloc (.cells #[.string ⟨#[]⟩, .int .u32 0, .int .i64 0, .string ⟨#[]⟩, .int .u32 0, .int .i64 0, .string ⟨#[]⟩, .int .u32 0, .int .i64 0, .string ⟨#[]⟩, .int .u32 0, .int .i64 0] 68)).drew HB1.out) ?_
        rintro e Y ⟨rfl, hY⟩
        have HBY := hide (below_next HB1.out hY)
        have hrz := (hY.block W.heap.size (by show _ < (W.alloc _).heap.size; rw [World.size_alloc]; exact Nat.lt_succ_self _)).trans zb
        clear hY
        refine ⟨_, rfl, hK _ _ ?_⟩
        clear hK K
        try simp only [Act.put, List.setIfInBounds_toArray, List.set_cons_zero, List.set_cons_succ]
        refine Gl.wpAny_takeOf 8 (some 22) (.tuple #[.agg vc, .int .i64 (f : Nat)]) rfl rfl (by kernel_rfl) (by kernel_rfl) (by kernel_rfl) (fun _ _ _ h => h) (Or.inl ⟨by rfl, ?_⟩) ?_
        · intro wx
          go_simp
        try simp only [Act.put, List.setIfInBounds_toArray, List.set_cons_zero, List.set_cons_succ]
        refine Gl.wpAny_takeOf 9 (some 31) (.agg vc) rfl rfl (by kernel_rfl) (by kernel_rfl) (by kernel_rfl) (fun _ _ _ h => h) (Or.inl ⟨by rfl, ?_⟩) ?_
        · intro wx
          go_simp
        try simp only [Act.put, List.setIfInBounds_toArray, List.set_cons_zero, List.set_cons_succ]
        refine Gl.wpAny_takeOf 10 (some 32) (.int .i64 (f : Nat)) rfl rfl (by kernel_rfl) (by kernel_rfl) (by kernel_rfl) (fun _ _ _ h => h) (Or.inl ⟨by rfl, ?_⟩) ?_
        · intro wx
          go_simp
        try simp only [Act.put, List.setIfInBounds_toArray, List.set_cons_zero, List.set_cons_succ]
        refine Gl.wpAny_only (i := 12) (by kernel_rfl) rfl rfl (fun K hK => ?_)
        refine wp_store_row 68 _ _ rfl W.heap.size vc rfl rfl 68 _ hrz (by rw [hvs]; exact size_vals) (by rw [hvs]; rfl) hv1 ?_
        refine hK _ _ ?_
        clear hK K
        try simp only [Act.put]
        refine Gl.wpAny_only (i := 13) (by kernel_rfl) rfl rfl (fun K hK => ?_)
        go_simp
        refine hK _ _ ?_
        clear hK K
        try simp only [Act.put, List.setIfInBounds_toArray, List.set_cons_zero, List.set_cons_succ]
        refine wpAny_done (by kernel_rfl) ?_ _
        go_wp2_with fail
        go_meet
        case rel => exact ⟨rfl, W.heap.size, rfl, hide (below_setRow HBY.out (Nat.le_refl _) vc), hide (setRow_heap _ _ _ _ _ _ hrz)⟩
    case rest => as_aux_lemma =>
      obtain ⟨rfl, r5, rfl, HB, HR⟩ := hcut
      clear hrng0 hrng1 zb HL HB0 HB1 y4
      have HX := hide (HH.out.on HB.out)
      have HFX := hide (DFr.of (g := g) sv lv HB.out)
      by_cases hf : f = 0
      · rw [if_pos hf] at HDE
        have f0 : ¬ (0 : Int) < (f : Nat) := by omega
        have hrow := HR.out
        have HE := HE1 wc HX.out
        clear hf HE2 HE1
        go_wp2_with (refine wpList_load_row rfl 68 (.tmp 5) rfl r5 rfl 68 vc (0, 0) _ hrow Tryz.underlying68 rfl (by rw [hvs]; exact size_vals) ?_)
        refine HE.mono ?_
        rintro e w' hG
        obtain ⟨rfl, h1⟩ := DGoes.from HFX.out hG
        clear hG
        go_wp2
        go_end0
        rw [HDE.out]
        exact ⟨rfl, h1⟩
      · rw [if_neg hf] at HDE
        have f0 : (0 : Int) < (f : Nat) := by omega
        have HE := HE2 wc HX.out
        clear hf HE2 HE1
        go_wp2_with fail
        refine HE.mono ?_
        rintro e w' hG
        obtain ⟨rfl, h1⟩ := DGoes.from HFX.out hG
        clear hG
        go_wp2
        go_end0
        rw [HDE.out]
        exact ⟨rfl, h1⟩
end Go.Proofs.YtklibmijiecbfaaGreat

/- The document's further. -/
namespace Go.Proofs.YtklibmijiecbfaaGreat
open Go.RowKit Mm

set_option maxHeartbeats 4000000 in
set_option maxRecDepth 20000 in
theorem dfurther_any {g : Nat} {P : PV} {d : DWS} {sv : Nat → Value} {lv : Value} {W : World} (n : Nat) (hn : n < 3) (h8 : (d.T n).asked.nr ≤ 8) (har : (d.T n).arg < 4) (h : DX g P d sv lv W) :
    Calls Tryz.prog 95 #[.pointer (some ⟨g, 0, none⟩), .int .i64 n] W (DGoes g P (dfurther n (d.T n) d) sv lv W) := by
  have j0 : ¬ (n : Int) < 0 := by omega
  have j1 : (0 : Int) ≤ n := by omega
  have j2 : ¬ (2 : Int) < n := by omega
  have j3 : (n : Int) < 3 := by omega
  obtain ⟨k, hkk⟩ : ∃ k, k = nowK (d.T n) := ⟨_, rfl⟩
  obtain ⟨ar, har2⟩ : ∃ a, a = (d.T n).arg := ⟨_, rfl⟩
  obtain ⟨np, hnp⟩ : ∃ m, m = nextPt k.nr (ar + 1) := ⟨_, rfl⟩
  have hknr : k.nr = (d.T n).asked.nr := by rw [hkk]; rfl
  have HFU := hide (show dfurther n (d.T n) d = d.put n { d.T n with arg := np, phase := if np = 4 then 3 else (d.T n).phase } by rw [hnp, hknr, har2]; rfl)
  rw [← har2] at har
  rw [← hknr] at h8
  have a0 : IntKind.wrap .i64 ((ar : Int) + 1) = (ar : Int) + 1 := by rw [IntKind.wrap_i64] <;> omega
  have HH := hide (h.on (Below.refl _ W).drew)
  have HF0 := hide (DFr.of (g := g) sv lv (Below.refl _ W).drew)
  obtain ⟨x1, x2, x3, x4, x5, x6⟩ := HH.out.nows n hn
  rw [← hkk] at x1 x2 x3 x4 x5 x6
  have x0 : W.drew.cell? ⟨g, 783 + n * 31 + 17, none⟩ = some (.int .i64 (ar : Nat)) := by rw [HH.out.th n 17 hn (by omega), har2]; rfl
  have HP : Calls Tryz.prog 66 #[klV k, .int .i64 ((ar : Int) + 1)] W.drew fun e w' => e = .returned (.int .i64 (nextPt k.nr (ar + 1) : Nat)) ∧ Below W.drew.heap.size W.drew w' := pointer_any k h8 (ar + 1) (by omega) W.drew
  unfold klV klC at HP
  rw [← hnp] at HP
  have HA : Hid (∀ w2, Below W.drew.heap.size W.drew w2 → DX g P (d.put n { d.T n with arg := np }) sv lv (w2.setCell ⟨g, 783 + n * 31 + 17, none⟩ (.int .i64 (np : Nat))) ∧ DFr g sv lv sv lv W (w2.setCell ⟨g, 783 + n * 31 + 17, none⟩ (.int .i64 (np : Nat)))) := hide (fun w2 hw2 =>
    ⟨(HH.out.on hw2).setT n 17 hn (by omega) _ _ rfl (fun j _ => cellDT_argx _ _ _ j), HF0.out.trans ((DFr.of sv lv hw2).trans (DFr.set sv lv _ _ _))⟩)
  have HCW : Hid (∀ w2, Below W.drew.heap.size W.drew w2 → w2.cell? ⟨g, 783 + n * 31 + 17, none⟩ = some (.int .i64 (ar : Nat)) ∧ w2.frozen? ⟨g, 783 + n * 31 + 17, none⟩ = false) := hide (fun w2 hw2 => ⟨keep_cell hw2 x0, (HH.out.on hw2).fro _⟩)
  clear h hkk har2 hnp hknr h8
  go_enter Tryz.func95, Tryz.ntmps95
  go_wp2_with fail
  refine wp_region_any (by kernel_rfl) ?_
  change wpAny _ _ _ _ _ _ _ (World.drew _)
  refine Gl.wpAny_takeOf 0 (some 10) (Value.pointer (some ⟨g, 783 + n * 31, none⟩)) rfl rfl (by kernel_rfl) (by kernel_rfl) (by kernel_rfl) (fun _ _ _ h => h) (Or.inl ⟨by rfl, ?_⟩) ?_
  · intro wx
    go_simp
  try simp only [Act.put, List.setIfInBounds_toArray, List.set_cons_zero, List.set_cons_succ]
  refine Gl.wpAny_takeOf 1 (some 11) (Value.pointer (some ⟨g, 783 + n * 31, none⟩)) rfl rfl (by kernel_rfl) (by kernel_rfl) (by kernel_rfl) (fun _ _ _ h => h) (Or.inl ⟨by rfl, ?_⟩) ?_
  · intro wx
    go_simp
  try simp only [Act.put, List.setIfInBounds_toArray, List.set_cons_zero, List.set_cons_succ]
  refine Gl.wpAny_takeOf 2 (some 12) (Value.pointer (some ⟨g, 783 + n * 31, none⟩)) rfl rfl (by kernel_rfl) (by kernel_rfl) (by kernel_rfl) (fun _ _ _ h => h) (Or.inl ⟨by rfl, ?_⟩) ?_
  · intro wx
    go_simp
  try simp only [Act.put, List.setIfInBounds_toArray, List.set_cons_zero, List.set_cons_succ]
  refine Gl.wpAny_takeOf 3 (some 13) (Value.pointer (some ⟨g, 783 + n * 31 + 7, none⟩)) rfl rfl (by kernel_rfl) (by kernel_rfl) (by kernel_rfl) (fun _ _ _ h => h) (Or.inl ⟨by rfl, ?_⟩) ?_
  · intro wx
    go_simp
  try simp only [Act.put, List.setIfInBounds_toArray, List.set_cons_zero, List.set_cons_succ]
  refine Gl.wpAny_takeOf 5 (some 15) (Value.pointer (some ⟨g, 783 + n * 31, none⟩)) rfl rfl (by kernel_rfl) (by kernel_rfl) (by kernel_rfl) (fun _ _ _ h => h) (Or.inl ⟨by rfl, ?_⟩) ?_
  · intro wx
    go_simp
  try simp only [Act.put, List.setIfInBounds_toArray, List.set_cons_zero, List.set_cons_succ]
  refine Gl.wpAny_takeOf 6 (some 16) (Value.pointer (some ⟨g, 783 + n * 31, none⟩)) rfl rfl (by kernel_rfl) (by kernel_rfl) (by kernel_rfl) (fun _ _ _ h => h) (Or.inl ⟨by rfl, ?_⟩) ?_
  · intro wx
    go_simp
  try simp only [Act.put, List.setIfInBounds_toArray, List.set_cons_zero, List.set_cons_succ]
  refine Gl.wpAny_takeOf 7 (some 17) (Value.pointer (some ⟨g, 783 + n * 31 + 17, none⟩)) rfl rfl (by kernel_rfl) (by kernel_rfl) (by kernel_rfl) (fun _ _ _ h => h) (Or.inl ⟨by rfl, ?_⟩) ?_
  · intro wx
    go_simp
  try simp only [Act.put, List.setIfInBounds_toArray, List.set_cons_zero, List.set_cons_succ]
  refine wpAny_two (i := 4) (j := 8) (by kernel_rfl) rfl rfl rfl rfl (fun K hK => ?_) (fun K hK => ?_)
  · go_simp
    refine hK _ _ ?_
    clear hK K
    try simp only [Act.put, List.setIfInBounds_toArray, List.set_cons_zero, List.set_cons_succ]
    refine Gl.wpAny_only (i := 8) (by kernel_rfl) rfl rfl (fun K hK => ?_)
    go_simp
    refine hK _ _ ?_
    clear hK K
    try simp only [Act.put, List.setIfInBounds_toArray, List.set_cons_zero, List.set_cons_succ]
    refine Gl.wpAny_takeOf 9 (some 19) (.int .i64 ((ar : Int) + 1)) rfl rfl (by kernel_rfl) (by kernel_rfl) (by kernel_rfl) (fun _ _ _ h => h) (Or.inl ⟨by rfl, ?_⟩) ?_
    · intro wx
      go_simp
    try simp only [Act.put, List.setIfInBounds_toArray, List.set_cons_zero, List.set_cons_succ]
    refine Gl.wpAny_only (i := 10) (by kernel_rfl) rfl rfl (fun K hK => ?_)
    refine Gl.wp_callOf 66 #[.agg #[.int .u32 k.arch, .int .u32 k.nr, .int .u64 k.a0, .int .u64 k.a1, .int .u64 k.a2, .int .u64 k.a3], .int .i64 ((ar : Int) + 1)] (by kernel_rfl) HP ?_
    rintro e w2 ⟨rfl, hw2⟩
    obtain ⟨cw, fw⟩ := HCW.out w2 hw2
    refine ⟨_, rfl, hK _ _ ?_⟩
    clear hK K
    try simp only [Act.put, List.setIfInBounds_toArray, List.set_cons_zero, List.set_cons_succ]
    refine Gl.wpAny_only (i := 11) (by kernel_rfl) rfl rfl (fun K hK => ?_)
    go_simp
    refine hK _ _ ?_
    clear hK K
    try simp only [Act.put, List.setIfInBounds_toArray, List.set_cons_zero, List.set_cons_succ]
    refine Gl.wpAny_only (i := 12) (by kernel_rfl) rfl rfl (fun K hK => ?_)
    go_simp
    refine hK _ _ ?_
    clear hK K
    try simp only [Act.put, List.setIfInBounds_toArray, List.set_cons_zero, List.set_cons_succ]
    refine Gl.wpAny_only (i := 13) (by kernel_rfl) rfl rfl (fun K hK => ?_)
    go_simp
    refine hK _ _ ?_
    clear hK K
    try simp only [Act.put, List.setIfInBounds_toArray, List.set_cons_zero, List.set_cons_succ]
    refine wpAny_done (by kernel_rfl) ?_ _
    obtain ⟨Z, hZ⟩ : ∃ Z, Z = w2.setCell ⟨g, 783 + n * 31 + 17, none⟩ (.int .i64 (np : Nat)) := ⟨_, rfl⟩
    have HZ := hide (HA.out w2 hw2)
    rw [← hZ] at HZ
    have ca := HZ.out.1.th n 17 hn (by omega)
    rw [T_dput] at ca
    replace ca : Z.cell? ⟨g, 783 + n * 31 + 17, none⟩ = some (.int .i64 (np : Nat)) := ca
    clear hw2 cw fw
    rw [← hZ]
    clear hZ
    by_cases h4 : np = 4
    · have b4 : ((np : Int) == 4) = true := by simpa using (show (np : Int) = 4 by omega)
      have cp := HZ.out.1.phase n hn
      have fp := HZ.out.1.fro (783 + n * 31)
      have HS := hide (HZ.out.1.setPhase n 3 hn)
      rw [T_dput, dput_dput] at HS
      rw [if_pos h4] at HFU
      clear h4
      go_wp2
      go_end0
      refine ⟨rfl, sv, lv, ?_, HZ.out.2.trans (DFr.set sv lv _ _ _)⟩
      rw [HFU.out]
      exact HS.out
    · have b4 : ((np : Int) == 4) = false := by simpa using (show ¬ (np : Int) = 4 by omega)
      rw [if_neg h4] at HFU
      clear h4
      go_wp2
      go_end0
      refine ⟨rfl, sv, lv, ?_, HZ.out.2⟩
      rw [HFU.out]
      exact HZ.out.1
  · go_simp
    refine hK _ _ ?_
    clear hK K
    try simp only [Act.put, List.setIfInBounds_toArray, List.set_cons_zero, List.set_cons_succ]
    refine Gl.wpAny_takeOf 9 (some 19) (.int .i64 ((ar : Int) + 1)) rfl rfl (by kernel_rfl) (by kernel_rfl) (by kernel_rfl) (fun _ _ _ h => h) (Or.inl ⟨by rfl, ?_⟩) ?_
    · intro wx
      go_simp
    try simp only [Act.put, List.setIfInBounds_toArray, List.set_cons_zero, List.set_cons_succ]
    refine Gl.wpAny_only (i := 4) (by kernel_rfl) rfl rfl (fun K hK => ?_)
    go_simp
    refine hK _ _ ?_
    clear hK K
    try simp only [Act.put, List.setIfInBounds_toArray, List.set_cons_zero, List.set_cons_succ]
    refine Gl.wpAny_only (i := 10) (by kernel_rfl) rfl rfl (fun K hK => ?_)
    refine Gl.wp_callOf 66 #[.agg #[.int .u32 k.arch, .int .u32 k.nr, .int .u64 k.a0, .int .u64 k.a1, .int .u64 k.a2, .int .u64 k.a3], .int .i64 ((ar : Int) + 1)] (by kernel_rfl) HP ?_
    rintro e w2 ⟨rfl, hw2⟩
    obtain ⟨cw, fw⟩ := HCW.out w2 hw2
    refine ⟨_, rfl, hK _ _ ?_⟩
    clear hK K
    try simp only [Act.put, List.setIfInBounds_toArray, List.set_cons_zero, List.set_cons_succ]
    refine Gl.wpAny_only (i := 11) (by kernel_rfl) rfl rfl (fun K hK => ?_)
    go_simp
    refine hK _ _ ?_
    clear hK K
    try simp only [Act.put, List.setIfInBounds_toArray, List.set_cons_zero, List.set_cons_succ]
    refine Gl.wpAny_only (i := 12) (by kernel_rfl) rfl rfl (fun K hK => ?_)
    go_simp
    refine hK _ _ ?_
    clear hK K
    try simp only [Act.put, List.setIfInBounds_toArray, List.set_cons_zero, List.set_cons_succ]
    refine Gl.wpAny_only (i := 13) (by kernel_rfl) rfl rfl (fun K hK => ?_)
    go_simp
    refine hK _ _ ?_
    clear hK K
    try simp only [Act.put, List.setIfInBounds_toArray, List.set_cons_zero, List.set_cons_succ]
    refine wpAny_done (by kernel_rfl) ?_ _
    obtain ⟨Z, hZ⟩ : ∃ Z, Z = w2.setCell ⟨g, 783 + n * 31 + 17, none⟩ (.int .i64 (np : Nat)) := ⟨_, rfl⟩
    have HZ := hide (HA.out w2 hw2)
    rw [← hZ] at HZ
    have ca := HZ.out.1.th n 17 hn (by omega)
    rw [T_dput] at ca
    replace ca : Z.cell? ⟨g, 783 + n * 31 + 17, none⟩ = some (.int .i64 (np : Nat)) := ca
    clear hw2 cw fw
    rw [← hZ]
    clear hZ
    by_cases h4 : np = 4
    · have b4 : ((np : Int) == 4) = true := by simpa using (show (np : Int) = 4 by omega)
      have cp := HZ.out.1.phase n hn
      have fp := HZ.out.1.fro (783 + n * 31)
      have HS := hide (HZ.out.1.setPhase n 3 hn)
      rw [T_dput, dput_dput] at HS
      rw [if_pos h4] at HFU
      clear h4
      go_wp2
      go_end0
      refine ⟨rfl, sv, lv, ?_, HZ.out.2.trans (DFr.set sv lv _ _ _)⟩
      rw [HFU.out]
      exact HS.out
    · have b4 : ((np : Int) == 4) = false := by simpa using (show ¬ (np : Int) = 4 by omega)
      rw [if_neg h4] at HFU
      clear h4
      go_wp2
      go_end0
      refine ⟨rfl, sv, lv, ?_, HZ.out.2⟩
      rw [HFU.out]
      exact HZ.out.1
end Go.Proofs.YtklibmijiecbfaaGreat

/- A thread's cells set, one by one. -/
namespace Go.Proofs.YtklibmijiecbfaaGreat
open Go.RowKit Mm

theorem cellT_read' (t : TH) (l : W8) (k : Nat) : cellT { t with read := l } k = if k = 16 then .string (bs l) else cellT t k := by
  by_cases h : k = 16
  · subst h; rfl
  · rw [if_neg h]
    unfold cellT
    simp only [if_neg h]
theorem cellT_seen' (t : TH) (x k : Nat) : cellT { t with seen := x } k = if k = 15 then .int .i64 x else cellT t k := by
  by_cases h : k = 15
  · subst h; rfl
  · rw [if_neg h]
    unfold cellT
    simp only [if_neg h]
theorem cellT_phase' (t : TH) (x k : Nat) : cellT { t with phase := x } k = if k = 0 then .int .i64 x else cellT t k := by
  by_cases h : k = 0
  · subst h; rfl
  · rw [if_neg h]
    unfold cellT
    simp only [if_neg h]
theorem cellT_arg' (t : TH) (i x k : Nat) (hi : i < 4) : cellT { t with args := updF t.args i x } k = if k = 7 + i then .int .u64 x else cellT t k := by
  by_cases h : k = 7 + i
  · subst h
    rw [if_pos rfl, cellT_arg _ _ hi]
    show Value.int .u64 ((updF t.args i x i : Nat) : Int) = _
    rw [updF_same]
  · rw [if_neg h]
    unfold cellT
    simp only
    split
    · rfl
    · split
      · rfl
      · split
        · rfl
        · split
          · rfl
          · split
            · rw [updF_other _ _ (by omega)]
            · rfl
theorem cellT_sld' (t : TH) (i k : Nat) (x : Bool) (hi : i < 4) : cellT { t with sld := updF t.sld i x } k = if k = 11 + i then .bool x else cellT t k := by
  by_cases h : k = 11 + i
  · subst h
    rw [if_pos rfl, cellT_sld _ _ hi]
    show Value.bool (updF t.sld i x i) = _
    rw [updF_same]
  · rw [if_neg h]
    unfold cellT
    simp only
    split
    · rfl
    · split
      · rfl
      · split
        · rfl
        · split
          · rfl
          · split
            · rfl
            · split
              · rw [updF_other _ _ (by omega)]
              · rfl
theorem cellT_vals' (t : TH) (i k : Nat) (v : VL) (h : ¬ (17 + i * 3 ≤ k ∧ k < 17 + i * 3 + 3)) : cellT { t with vals := updF t.vals i v } k = cellT t k := by
  by_cases h17 : k < 17
  · rcases show k = 0 ∨ k = 1 ∨ k = 2 ∨ k = 3 ∨ k = 4 ∨ k = 5 ∨ k = 6 ∨ k = 7 ∨ k = 8 ∨ k = 9 ∨ k = 10 ∨ k = 11 ∨ k = 12 ∨ k = 13 ∨ k = 14 ∨ k = 15 ∨ k = 16 by omega with rfl | rfl | rfl | rfl | rfl | rfl | rfl | rfl | rfl | rfl | rfl | rfl | rfl | rfl | rfl | rfl | rfl <;> rfl
  · obtain ⟨d, e, hd, hk⟩ : ∃ d e, e < 3 ∧ k = 17 + d * 3 + e := ⟨(k - 17) / 3, (k - 17) % 3, by omega, by omega⟩
    have hne : d ≠ i := by omega
    have h1 := cellT_val { t with vals := updF t.vals i v } d
    have h2 := cellT_val t d
    rw [show ({ t with vals := updF t.vals i v } : TH).vals d = t.vals d from updF_other _ _ hne] at h1
    subst hk
    rcases show e = 0 ∨ e = 1 ∨ e = 2 by omega with rfl | rfl | rfl
    · exact h1.1.trans h2.1.symm
    · exact h1.2.1.trans h2.2.1.symm
    · exact h1.2.2.trans h2.2.2.symm
theorem WX.setT' {g gm : Nat} {P : PV} {s : WS} {lv : Value} {W : World} {n : Nat} {t0 : TH} (h : WX g gm P (s.put n t0) lv W) (j : Nat) (hn : n < 3) (hj : j < 29) (v : Value) (t : TH) (hc : ∀ k, cellT t k = if k = j then v else cellT t0 k) : WX g gm P (s.put n t) lv (W.setCell ⟨g, 4 + n * 29 + j, none⟩ v) := by
  have h1 := h.setT n j hn hj v t (fun k _ => by rw [T_put]; exact hc k)
  rw [put_put] at h1
  exact h1
theorem WX.setVal {g gm : Nat} {P : PV} {s : WS} {lv : Value} {W : World} {n : Nat} {t0 : TH} (h : WX g gm P (s.put n t0) lv W) (i : Nat) (hn : n < 3) (hi : i < 4) (v : VL) : WX g gm P (s.put n { t0 with vals := updF t0.vals i v }) lv (W.setCells g (4 + n * 29 + 17 + i * 3) (vlC v).toList) := by
  rw [setCells_VA g 79 _ _ _ W h.row]
  have h1 := h.rows (updF (s.put n t0).T n { t0 with vals := updF t0.vals i v }) (updW_T P gm (s.put n t0).T lv n hn { t0 with vals := updF t0.vals i v } (ovr (cellW P gm (s.put n t0).T lv) (4 + n * 29 + 17 + i * 3) (vlC v).toList) (fun j hj => ?_) fun k hk => ?_)
  · have h2 : ({ s.put n t0 with T := updF (s.put n t0).T n { t0 with vals := updF t0.vals i v } } : WS) = s.put n { t0 with vals := updF t0.vals i v } := by
      unfold WS.put
      simp only [updF_again]
    rw [h2] at h1
    exact h1
  · have hl : (vlC v).toList.length = 3 := rfl
    unfold ovr
    rw [hl]
    by_cases hr : 17 + i * 3 ≤ j ∧ j < 17 + i * 3 + 3
    · rw [if_pos (by omega)]
      have hv := cellT_val { t0 with vals := updF t0.vals i v } i
      simp only [updF_same] at hv
      rcases show j = 17 + i * 3 ∨ j = 17 + i * 3 + 1 ∨ j = 17 + i * 3 + 2 by omega with rfl | rfl | rfl
      · rw [hv.1, show 4 + n * 29 + (17 + i * 3) - (4 + n * 29 + 17 + i * 3) = 0 by omega]; rfl
      · rw [hv.2.1, show 4 + n * 29 + (17 + i * 3 + 1) - (4 + n * 29 + 17 + i * 3) = 1 by omega]; rfl
      · rw [hv.2.2, show 4 + n * 29 + (17 + i * 3 + 2) - (4 + n * 29 + 17 + i * 3) = 2 by omega]; rfl
    · rw [if_neg (by omega), cellW_T _ _ _ _ _ _ hn hj, T_put]
      exact (cellT_vals' t0 i j v hr).symm
  · unfold ovr
    rw [show (vlC v).toList.length = 3 from rfl, if_neg]
    intro hh
    exact hk (k - (4 + n * 29)) (by omega) (by omega)
/-- Only sealed pages, registers and the call count at a call's end. -/
theorem freeT_congr {t u : TH} (m : MS) (h1 : t.sld = u.sld) (h2 : t.args = u.args) : ∀ i, freeT t m i = freeT u m i
  | 0 => rfl
  | i + 1 => by
    unfold freeT
    rw [freeT_congr m h1 h2 i, h1, h2]
theorem end_put {n : Nat} {s : WS} {t : TH} (kind : Nat) (errno : Int) (v : VS) (h1 : t.sld = (s.T n).sld) (h2 : t.args = (s.T n).args) (h3 : t.call = (s.T n).call) : endS n kind errno v (s.put n t) = endS n kind errno v s := by
  unfold endS
  rw [T_put, h3, freeT_congr _ h1 h2]
  unfold WS.put
  simp only [updF_again]
end Go.Proofs.YtklibmijiecbfaaGreat

/- snap. -/
namespace Go.Proofs.YtklibmijiecbfaaGreat
open Go.RowKit Mm

/-- Behind pointersOf: the ward, the places, the kinds. -/
structure SX (g gm : Nat) (P : PV) (s : WS) (lv : Value) (oa : Option Addr) (l : List Nat) (ka : Array Value) (r6 : Nat) (W X : World) : Prop where
  ward : WX g gm P s lv X
  ints : IsInts W.heap.size oa l X
  box : X.heap[r6]? = some (.cells ka 126 (0, 0))
  bd : W.heap.size ≤ r6
  fr : Below W.heap.size W X
theorem SX.of {g gm : Nat} {P : PV} {s : WS} {lv : Value} {oa : Option Addr} {l : List Nat} (ka : Array Value) {W Y : World} (z : Array Value) (h : WX g gm P s lv W) (hi : IsInts W.heap.size oa l Y) (hb : Below W.heap.size W Y) : SX g gm P s lv oa l ka Y.heap.size W ((Y.alloc (.cells z 126)).setRow Y.heap.size ka) := by
  have h1 : Below Y.heap.size Y ((Y.alloc (.cells z 126)).setRow Y.heap.size ka) := below_setRow (box_below Y _) (Nat.le_refl _) _
  exact ⟨(h.on hb).on h1, hi.on h1, setRow_heap _ _ _ _ _ _ (heap_alloc_new Y _), hb.size, below_next hb h1⟩
theorem SX.on {g gm : Nat} {P : PV} {s : WS} {lv : Value} {oa : Option Addr} {l : List Nat} {ka : Array Value} {r6 : Nat} {W X Z : World} (h : SX g gm P s lv oa l ka r6 W X) (hb : Below X.heap.size X Z) : SX g gm P s lv oa l ka r6 W Z :=
  ⟨h.ward.on hb, h.ints.on hb, (hb.block _ (Array.getElem?_eq_some_iff.1 h.box).1).trans h.box, h.bd, below_next h.fr hb⟩
theorem lrow_cells {W : World} {r : Nat} (h : W.heap[r]? = some (.cells #[.string ⟨#[]⟩, .int .u32 0, .int .i64 0] 66 (0, 0))) :
    (W.cell? ⟨r, 0, none⟩ = some (.string ⟨#[]⟩) ∧ W.cell? ⟨r, 1, none⟩ = some (.int .u32 0) ∧ W.cell? ⟨r, 2, none⟩ = some (.int .i64 0)) ∧ W.frozen? ⟨r, 0, none⟩ = false ∧ W.frozen? ⟨r, 1, none⟩ = false ∧ W.frozen? ⟨r, 2, none⟩ = false :=
  ⟨⟨cell_of_row _ _ 0 _ _ _ h, cell_of_row _ _ 1 _ _ _ h, cell_of_row _ _ 2 _ _ _ h⟩, frozen_of_row _ _ 0 _ _ h, frozen_of_row _ _ 1 _ _ h, frozen_of_row _ _ 2 _ _ h⟩
theorem lset3 {W : World} {r : Nat} (h : W.heap[r]? = some (.cells #[.string ⟨#[]⟩, .int .u32 0, .int .i64 0] 66 (0, 0))) (v0 v1 v2 : Value) :
    ((W.setCell ⟨r, 0, none⟩ v0).setCell ⟨r, 1, none⟩ v1).setCell ⟨r, 2, none⟩ v2 = W.setRow r #[v0, v1, v2] := by
  rw [setCell_eq_setRow _ _ 0 _ _ _ _ h, setCell_eq_setRow _ _ 1 _ _ _ _ (setRow_heap _ _ _ _ _ _ h), setRow_again _ _ _ _ _ _ h, setCell_eq_setRow _ _ 2 _ _ _ _ (setRow_heap _ _ _ _ _ _ h), setRow_again _ _ _ _ _ _ h]
  rfl
theorem conv_one (W : World) (r x : Nat) (hx : x < 256) (hc : W.cell? ⟨r, 0, none⟩ = some (.int .u8 x)) : (convert 132 9 (.slice (some ⟨r, 0, none⟩) 1 1)).run Tryz.prog W = .ok (.string (bs [UInt8.ofNat x])) W :=
  run_convert_bytes_back (P := Tryz.prog) W 132 9 5 ⟨r, 0, none⟩ 1 [UInt8.ofNat x] Tryz.underlying132 Tryz.underlying5 Tryz.underlying9 fun j hj => by
    obtain rfl : j = 0 := by simpa using hj
    rw [show (⟨r, 0, none⟩ : Addr).add 0 = ⟨r, 0, none⟩ from rfl, hc]
    show _ = some (Value.int .u8 ((UInt8.ofNat x).toNat : Int))
    rw [UInt8.toNat_ofNat', Nat.mod_eq_of_lt (show x < 2 ^ 8 from hx)]
/-- The ward has turned. -/
theorem SX.fr' {g gm : Nat} {P : PV} {s s' : WS} {lv lv' : Value} {oa : Option Addr} {l : List Nat} {ka : Array Value} {r6 : Nat} {W X Z : World} (h : SX g gm P s lv oa l ka r6 W X) (h0 : WX g gm P s lv W) (hw : WX g gm P s' lv' Z) (hf : Fr g gm lv lv' X Z) : WX g gm P s' lv' Z ∧ IsInts W.heap.size oa l Z ∧ Z.heap[r6]? = some (.cells ka 126 (0, 0)) ∧ Fr g gm lv lv' W Z := by
  have hg := h0.glt
  have hm := h0.mlt
  have hl : ∀ k, W.heap.size ≤ k → lv.ownBlock ≠ some k := fun k hk e => by have := (h0.own.lt k e).2; omega
  have hb := h.bd
  exact ⟨hw, h.ints.heap (fun k h1 h2 => hf.block k h2 (by omega) (by omega) (hl k h1)) hf.size, (hf.block r6 (Array.getElem?_eq_some_iff.1 h.box).1 (by omega) (by omega) (hl r6 hb)).trans h.box, (Fr.of lv h.fr).trans hf⟩
end Go.Proofs.YtklibmijiecbfaaGreat

/- The document's snap. -/
namespace Go.Proofs.YtklibmijiecbfaaGreat
open Go.RowKit Mm

theorem DX.setP {g : Nat} {P : PV} {d : DWS} {sv : Nat → Value} {lv : Value} {W : World} {n : Nat} {t0 : DT} (h : DX g P (d.put n t0) sv lv W) (j : Nat) (hn : n < 3) (hj : j < 31) (v : Value) (t : DT) (hs : t.seals = t0.seals) (hc : ∀ k, k < 31 → cellDT t (sv n) k = if k = j then v else cellDT t0 (sv n) k) : DX g P (d.put n t) sv lv (W.setCell ⟨g, 783 + n * 31 + j, none⟩ v) := by
  have h1 := h.setT n j hn hj v t (by rw [T_dput]; exact hs) (fun k hk => by rw [T_dput]; exact hc k hk)
  rw [dput_dput] at h1
  exact h1
theorem DX.setA {g : Nat} {P : PV} {d : DWS} {sv : Nat → Value} {lv : Value} {W : World} (h : DX g P d sv lv W) (n j : Nat) (hn : n < 3) (hj : j < 31) (o : Nat) (ho : o = 783 + n * 31 + j) (v : Value) (t : DT) (hs : t.seals = (d.T n).seals) (hc : ∀ k, k < 31 → cellDT t (sv n) k = if k = j then v else cellDT (d.T n) (sv n) k) : DX g P (d.put n t) sv lv (W.setCell ⟨g, o, none⟩ v) := by
  subst ho
  exact h.setT n j hn hj v t hs hc
theorem DX.setPA {g : Nat} {P : PV} {d : DWS} {sv : Nat → Value} {lv : Value} {W : World} {n : Nat} {t0 : DT} (h : DX g P (d.put n t0) sv lv W) (j : Nat) (hn : n < 3) (hj : j < 31) (o : Nat) (ho : o = 783 + n * 31 + j) (v : Value) (t : DT) (hs : t.seals = t0.seals) (hc : ∀ k, k < 31 → cellDT t (sv n) k = if k = j then v else cellDT t0 (sv n) k) : DX g P (d.put n t) sv lv (W.setCell ⟨g, o, none⟩ v) := by
  subst ho
  exact h.setP j hn hj v t hs hc
theorem dend_dput {d : DWS} {n : Nat} {t : DT} (hs : t.seals = (d.T n).seals) (ha : t.asked = (d.T n).asked) (kind : Nat) (errno : Int) (v : VS) : dend n kind errno v (d.put n t) = dend n kind errno v d := by
  rw [dend_eq, dend_eq, T_dput, hs, ha]
  unfold DWS.put
  simp only [updF_again]
set_option maxHeartbeats 2000000 in
set_option maxRecDepth 20000 in
theorem dsnap_any {g : Nat} {P : PV} {d : DWS} {sv : Nat → Value} {lv : Value} {W : World} (n : Nat) (hn : n < 3) (h8 : (d.T n).asked.nr ≤ 8) (har0 : (d.T n).arg < 4) (hkind : kindAt (d.T n).asked.nr (d.T n).arg = 2 ∨ kindAt (d.T n).asked.nr (d.T n).arg = 3) (hlen0 : ((d.T n).texts (d.T n).arg).length ≤ 40) (hbyt : ∀ x, d.mem.byte x < 256) (h : DX g P d sv lv W) (hlog : d.log.length ≤ 1000000) (hs64 : SealOk (d.T n)) :
    Calls Tryz.prog 68 #[.pointer (some ⟨g, 0, none⟩), .int .i64 n] W (DGoes g P (dsnap n d) sv lv W) := by
  have j0 : ¬ (n : Int) < 0 := by omega
  have j1 : (0 : Int) ≤ n := by omega
  have j2 : ¬ (2 : Int) < n := by omega
  have j3 : (n : Int) < 3 := by omega
  obtain ⟨ar, har2⟩ : ∃ a, a = (d.T n).arg := ⟨_, rfl⟩
  obtain ⟨nr, hnr⟩ : ∃ a, a = (d.T n).asked.nr := ⟨_, rfl⟩
  obtain ⟨rd, hrd⟩ : ∃ l, l = (d.T n).texts ar := ⟨_, rfl⟩
  obtain ⟨q, hq⟩ : ∃ x, x = bs rd := ⟨_, rfl⟩
  obtain ⟨ax, hax⟩ : ∃ x, x = (d.T n).now ar := ⟨_, rfl⟩
  obtain ⟨kd, hkd⟩ : ∃ x, x = kindAt nr ar := ⟨_, rfl⟩
  have har : ar < 4 := by rw [har2]; exact har0
  have hlen : rd.length ≤ 40 := by rw [hrd, har2]; exact hlen0
  rw [← hnr, ← har2, ← hkd] at hkind
  rw [← hnr] at h8
  have qs : q.size = rd.length := by rw [hq, bs_size]
  have k1 : (0 : Int) ≤ ar := by omega
  have k2 : (ar : Int) < 4 := by omega
  have HH := hide h
  have y1 : W.cell? ⟨g, 783 + n * 31 + 17, none⟩ = some (.int .i64 (ar : Nat)) := by rw [h.th n 17 hn (by omega), har2]; rfl
  have y2 : W.cell? ⟨g, 783 + n * 31 + 13 + ar, none⟩ = some (.string q) := by rw [Nat.add_assoc (783 + n * 31), h.th n (13 + ar) hn (by omega), cellDT_text _ _ _ har, hq, hrd]
  have y3 : W.cell? ⟨g, 783 + n * 31 + 9 + ar, none⟩ = some (.int .u64 (ax : Nat)) := by rw [Nat.add_assoc (783 + n * 31), h.th n (9 + ar) hn (by omega), cellDT_now _ _ _ har, hax]
  have y4 : W.cell? ⟨g, 783 + n * 31 + 8, none⟩ = some (.int .u32 (nr : Nat)) := by rw [h.th n 8 hn (by omega), hnr]; rfl
  obtain ⟨pk, hpk⟩ : ∃ x, x = peek d.mem (addrI ax rd.length) := ⟨_, rfl⟩
  have HB := fun X (hX : Below W.heap.size W X) => (show Calls Tryz.prog 74 #[.pointer (some ⟨g, 3, none⟩), .int .u64 ((addrI ax rd.length : Nat) : Int)] X fun e w' => e = .returned (rbyteV (peek d.mem (addrI ax rd.length))) ∧ w' = X from Vr.dbyte_any (h.mem.on hX) (addrI ax rd.length) (Nat.mod_lt _ (by decide)))
  rw [← hpk] at HB
  have hwr : IntKind.wrap .u64 ((ax : Int) + IntKind.wrap .u64 (q.size : Int)) = ((addrI ax rd.length : Nat) : Int) := by
    rw [qs]
    unfold addrI
    rw [IntKind.wrap_u64, IntKind.wrap_u64]
    omega
  obtain ⟨ai, hai⟩ : ∃ x : Nat, x = addrI ax rd.length := ⟨_, rfl⟩
  have HK := fun w => dkind_any nr ar (by omega) har w
  rw [← hkd] at HK
  have w1 : IntKind.wrap .i64 (nr : Int) = nr := by rw [IntKind.wrap_i64] <;> omega
  have HSP := hide (show dsnap n d = pk.elim (dend n 2 14 zeroVS d) (fun b => if kd = 2 then (if b = 0 then dfurther n { d.T n with vals := updF (d.T n).vals ar ⟨q, ((d.T n).vals ar).ip, ((d.T n).vals ar).port⟩ } d else if rd.length = 40 then dend n 2 36 zeroVS d else d.put n { d.T n with texts := updF (d.T n).texts ar (rd ++ [UInt8.ofNat b]) })
      else if (rd ++ [UInt8.ofNat b]).length < 16 then d.put n { d.T n with texts := updF (d.T n).texts ar (rd ++ [UInt8.ofNat b]) }
      else match readR (bs (rd ++ [UInt8.ofNat b])) with
        | none => dend n 2 22 zeroVS d
        | some x => dfurther n { d.T n with texts := updF (d.T n).texts ar (rd ++ [UInt8.ofNat b]), vals := updF (d.T n).vals ar ⟨((d.T n).vals ar).path, x.1, x.2⟩ } d) by
    rw [hpk, hkd, hnr, hq, hrd, hax, har2]
    unfold dsnap addrI
    simp only
    cases peek d.mem (((d.T n).now (d.T n).arg + ((d.T n).texts (d.T n).arg).length) % 18446744073709551616) <;> rfl)
  have HPK := hide hpk
  rw [← hai] at HB hwr
  have HQ := hide hq
  have HHB := hide hbyt
  have HN := hide hnr
  have HQS := hide qs
  have HAR := hide har2
  clear h har2 hrd hax hkd hpk hai har0 hlen0 hq hbyt hnr qs
  go_enter Tryz.func68, Tryz.ntmps68
  go_wp2_with fail
  go_quiet (fail)
  obtain ⟨X1, hX1⟩ : ∃ X, X = W.drewN nq := ⟨_, rfl⟩
  have hb1 : Below W.heap.size W X1 := by rw [hX1]; exact below_drewN (Below.refl _ _) _
  replace y1 : X1.cell? ⟨g, 783 + n * 31 + 17, none⟩ = some (.int .i64 (ar : Nat)) := by rw [hX1]; exact y1
  replace y3 : X1.cell? ⟨g, 783 + n * 31 + 9 + ar, none⟩ = some (.int .u64 (ax : Nat)) := by rw [hX1]; exact y3
  replace y4 : X1.cell? ⟨g, 783 + n * 31 + 8, none⟩ = some (.int .u32 (nr : Nat)) := by rw [hX1]; exact y4
  have HB2 := fun m => HB (X1.drewN m) (below_drewN hb1 _)
  rw [← hX1]
  have HB1 := hide hb1
  clear hX1 nq y2 HB hb1
  cases pk with
  | none => as_aux_lemma =>
    unfold rbyteV at HB2
    simp only [Option.elim] at HB2 HSP
    go_wp2_with fail
    go_quiet ((go_at_call 74; exact Calls.quiet_of_same (HB2 _)))
    obtain ⟨Z, hZ⟩ : ∃ Z, Z = X1.drewN nq := ⟨_, rfl⟩
    have hbz : Below W.heap.size W Z := by rw [hZ]; exact below_drewN HB1.out _
    have HZ := hide (HH.out.on hbz)
    have HFZ := hide (DFr.of (g := g) sv lv hbz)
    rw [← hZ]
    clear hZ hbz HB2 y1 y3 y4
    have HE := dend2 n hn 14 HZ.out hlog hs64
    go_wp2_with fail
    refine HE.mono ?_
    rintro e w' hG
    obtain ⟨rfl, h1⟩ := DGoes.from HFZ.out hG
    clear hG
    go_wp2
    go_end0
    rw [HSP.out]
    exact ⟨rfl, h1⟩
  | some bt => as_aux_lemma =>
    unfold rbyteV at HB2
    simp only [Option.elim] at HB2 HSP
    have hb256 : bt < 256 := by
      have h1 := HPK.out
      unfold peek at h1
      split at h1
      · rw [Option.some.inj h1]; exact HHB.out _
      · cases h1
    go_wp2_with fail
    go_quiet ((go_at_call 74; exact Calls.quiet_of_same (HB2 _)))
    obtain ⟨Z, hZ⟩ : ∃ Z, Z = X1.drewN nq := ⟨_, rfl⟩
    have hbz : Below W.heap.size W Z := by rw [hZ]; exact below_drewN HB1.out _
    have z1 : Z.cell? ⟨g, 783 + n * 31 + 17, none⟩ = some (.int .i64 (ar : Nat)) := by rw [hZ]; exact y1
    have z4 : Z.cell? ⟨g, 783 + n * 31 + 8, none⟩ = some (.int .u32 (nr : Nat)) := by rw [hZ]; exact y4
    rw [← hZ]
    clear hZ HB2 y1 y3 y4 nq
    rcases hkind with hk2 | hk3
    · as_aux_lemma =>
      have b2 : ((kd : Int) == 2) = true := by simpa using (show (kd : Int) = 2 by omega)
      rw [if_pos hk2] at HSP
      clear hk2
      go_wp2_with fail
      go_quiet ((go_at_call 44; exact Calls.quiet_of_same (HK _)))
      obtain ⟨Y, hY⟩ : ∃ Y, Y = Z.drewN nq := ⟨_, rfl⟩
      have hby : Below W.heap.size W Y := by rw [hY]; exact below_drewN hbz _
      have HZ := hide (HH.out.on hby)
      have HFZ := hide (DFr.of (g := g) sv lv hby)
      rw [← hY]
      clear hY hbz hby z1 z4 nq HK w1 hwr
      have HZD := hide (HZ.out.on (Below.refl _ _).drew)
      have HFD := hide (HFZ.out.trans (DFr.of sv lv (Below.refl _ _).drew))
      by_cases hb0 : bt = 0
      · as_aux_lemma =>
        have b0 : ((bt : Int) == 0) = true := by simpa using (show (bt : Int) = 0 by omega)
        rw [if_pos hb0] at HSP
        clear hb0
        have u17 : Y.drew.cell? ⟨g, 783 + n * 31 + 17, none⟩ = some (.int .i64 (ar : Nat)) := by rw [HZD.out.th n 17 hn (by omega), HAR.out]; rfl
        have u18 : Y.drew.cell? ⟨g, 783 + n * 31 + 18 + ar * 3, none⟩ = some (.string ((d.T n).vals ar).path) := by rw [Nat.add_assoc (783 + n * 31), HZD.out.th n (18 + ar * 3) hn (by omega), (cellDT_val _ _ _ har).1]
        have f18 := HZD.out.fro (783 + n * 31 + 18 + ar * 3)
        have HW7 := hide (And.intro (HZD.out.setA n (18 + ar * 3) hn (by omega) (783 + n * 31 + 18 + ar * 3) (by omega) (.string q) { d.T n with vals := updF (d.T n).vals ar ⟨q, ((d.T n).vals ar).ip, ((d.T n).vals ar).port⟩ } rfl (fun j hj => cellDT_path' _ _ _ _ har j hj)) (HFD.out.trans (DFr.set (g := g) sv lv Y.drew (783 + n * 31 + 18 + ar * 3) (.string q))))
        go_wp2_with fail
        refine wp_region_any (by kernel_rfl) ?_
        change wpAny _ _ _ _ _ _ _ (World.drew _)
        refine Gl.wpAny_takeOf 0 (some 66) (Value.pointer (some ⟨g, 783 + n * 31, none⟩)) rfl rfl (by kernel_rfl) (by kernel_rfl) (by kernel_rfl) (fun _ _ _ h => h) (Or.inl ⟨by rfl, ?_⟩) ?_
        · intro wx
          go_simp
        try simp only [Act.put, List.setIfInBounds_toArray, List.set_cons_zero, List.set_cons_succ]
        refine Gl.wpAny_takeOf 1 (some 67) (Value.pointer (some ⟨g, 783 + n * 31, none⟩)) rfl rfl (by kernel_rfl) (by kernel_rfl) (by kernel_rfl) (fun _ _ _ h => h) (Or.inl ⟨by rfl, ?_⟩) ?_
        · intro wx
          go_simp
        try simp only [Act.put, List.setIfInBounds_toArray, List.set_cons_zero, List.set_cons_succ]
        refine Gl.wpAny_takeOf 2 (some 68) (Value.pointer (some ⟨g, 783 + n * 31, none⟩)) rfl rfl (by kernel_rfl) (by kernel_rfl) (by kernel_rfl) (fun _ _ _ h => h) (Or.inl ⟨by rfl, ?_⟩) ?_
        · intro wx
          go_simp
        try simp only [Act.put, List.setIfInBounds_toArray, List.set_cons_zero, List.set_cons_succ]
        refine Gl.wpAny_takeOf 3 (some 69) (Value.pointer (some ⟨g, 783 + n * 31 + 17, none⟩)) rfl rfl (by kernel_rfl) (by kernel_rfl) (by kernel_rfl) (fun _ _ _ h => h) (Or.inl ⟨by rfl, ?_⟩) ?_
        · intro wx
          go_simp
        try simp only [Act.put, List.setIfInBounds_toArray, List.set_cons_zero, List.set_cons_succ]
        refine Gl.wpAny_takeOf 5 (some 71) (.string q) rfl rfl (by kernel_rfl) (by kernel_rfl) (by kernel_rfl) (fun _ _ _ h => h) (Or.inl ⟨by rfl, ?_⟩) ?_
        · intro wx
          go_simp
        try simp only [Act.put, List.setIfInBounds_toArray, List.set_cons_zero, List.set_cons_succ]
        refine Gl.wpAny_takeOf 6 (some 72) (Value.pointer (some ⟨g, 783 + n * 31, none⟩)) rfl rfl (by kernel_rfl) (by kernel_rfl) (by kernel_rfl) (fun _ _ _ h => h) (Or.inl ⟨by rfl, ?_⟩) ?_
        · intro wx
          go_simp
        try simp only [Act.put, List.setIfInBounds_toArray, List.set_cons_zero, List.set_cons_succ]
        refine Gl.wpAny_takeOf 7 (some 73) (Value.pointer (some ⟨g, 783 + n * 31 + 18, none⟩)) rfl rfl (by kernel_rfl) (by kernel_rfl) (by kernel_rfl) (fun _ _ _ h => h) (Or.inl ⟨by rfl, ?_⟩) ?_
        · intro wx
          go_simp
        try simp only [Act.put, List.setIfInBounds_toArray, List.set_cons_zero, List.set_cons_succ]
        refine Gl.wpAny_only (i := 4) (by kernel_rfl) rfl rfl (fun K hK => ?_)
        go_simp
        refine hK _ _ ?_
        clear hK K
        try simp only [Act.put, List.setIfInBounds_toArray, List.set_cons_zero, List.set_cons_succ]
        refine Gl.wpAny_only (i := 8) (by kernel_rfl) rfl rfl (fun K hK => ?_)
        go_simp
        refine hK _ _ ?_
        clear hK K
        try simp only [Act.put, List.setIfInBounds_toArray, List.set_cons_zero, List.set_cons_succ]
        refine Gl.wpAny_only (i := 9) (by kernel_rfl) rfl rfl (fun K hK => ?_)
        go_simp
        refine hK _ _ ?_
        clear hK K
        try simp only [Act.put, List.setIfInBounds_toArray, List.set_cons_zero, List.set_cons_succ]
        refine Gl.wpAny_only (i := 10) (by kernel_rfl) rfl rfl (fun K hK => ?_)
        go_simp
        refine hK _ _ ?_
        clear hK K
        try simp only [Act.put, List.setIfInBounds_toArray, List.set_cons_zero, List.set_cons_succ]
        refine wpAny_done (by kernel_rfl) ?_ _
        have HV := HW7
        have HFU := dfurther_any n hn (by rw [T_dput]; show (d.T n).asked.nr ≤ 8; rw [← HN.out]; exact h8) (by rw [T_dput]; show (d.T n).arg < 4; rw [← HAR.out]; exact har) HV.out.1
        rw [T_dput] at HFU
        rw [show dfurther n { d.T n with vals := updF (d.T n).vals ar ⟨q, ((d.T n).vals ar).ip, ((d.T n).vals ar).port⟩ } (d.put n { d.T n with vals := updF (d.T n).vals ar ⟨q, ((d.T n).vals ar).ip, ((d.T n).vals ar).port⟩ }) = dfurther n { d.T n with vals := updF (d.T n).vals ar ⟨q, ((d.T n).vals ar).ip, ((d.T n).vals ar).port⟩ } d from dput_dput _ _ _ _] at HFU
        go_wp2_with fail
        refine HFU.mono ?_
        rintro e w' hG
        obtain ⟨rfl, h1⟩ := DGoes.from HV.out.2 hG
        clear hG
        go_wp2
        go_end0
        rw [HSP.out]
        exact ⟨rfl, h1⟩
      · have b0 : ((bt : Int) == 0) = false := by simpa using (show ¬ (bt : Int) = 0 by omega)
        rw [if_neg hb0] at HSP
        clear hb0
        by_cases h40 : rd.length = 40
        · as_aux_lemma =>
          have b40 : ((q.size : Int) == 40) = true := by simpa using (show (q.size : Int) = 40 by have := HQS.out; omega)
          rw [if_pos h40] at HSP
          clear h40
          have HE := dend2 n hn 36 HZ.out hlog hs64
          go_wp2_with fail
          refine HE.mono ?_
          rintro e w' hG
          obtain ⟨rfl, h1⟩ := DGoes.from HFZ.out hG
          clear hG
          go_wp2
          go_end0
          rw [HSP.out]
          exact ⟨rfl, h1⟩
        · as_aux_lemma =>
          have b40 : ((q.size : Int) == 40) = false := by simpa using (show ¬ (q.size : Int) = 40 by have := HQS.out; omega)
          rw [if_neg h40] at HSP
          clear h40
          obtain ⟨l1, hl1⟩ : ∃ l, l = rd ++ [UInt8.ofNat bt] := ⟨_, rfl⟩
          rw [← hl1] at HSP
          obtain ⟨cb, hcb⟩ : ∃ c, c = bs [UInt8.ofNat bt] := ⟨_, rfl⟩
          have HQQ := hide (show bs l1 = q ++ cb by rw [hcb, HQ.out, hl1, bs_append])
          have hcat : ¬ 9223372036854775807 < q.size + cb.size := by rw [hcb, bs_size]; simp only [List.length_singleton]; have := HQS.out; omega
          have u17 : Y.drew.cell? ⟨g, 783 + n * 31 + 17, none⟩ = some (.int .i64 (ar : Nat)) := by rw [HZD.out.th n 17 hn (by omega), HAR.out]; rfl
          have hA := (HZ.out.on (box_below Y (.cells #[.int .u8 (bt : Nat)] 5))).on (Below.refl _ _).drew
          have v17 : (Y.alloc (.cells #[.int .u8 (bt : Nat)] 5)).drew.cell? ⟨g, 783 + n * 31 + 17, none⟩ = some (.int .i64 (ar : Nat)) := by rw [hA.th n 17 hn (by omega), HAR.out]; rfl
          have v13 : (Y.alloc (.cells #[.int .u8 (bt : Nat)] 5)).drew.cell? ⟨g, 783 + n * 31 + 13 + ar, none⟩ = some (.string (bs ((d.T n).texts ar))) := by rw [Nat.add_assoc (783 + n * 31), hA.th n (13 + ar) hn (by omega), cellDT_text _ _ _ har]
          have f13 := hA.fro (783 + n * 31 + 13 + ar)
          have hcv := conv_one (Y.alloc (.cells #[.int .u8 (bt : Nat)] 5)).drew Y.heap.size bt hb256 (cell_of_row _ _ 0 _ _ _ (heap_alloc_new Y _))
          rw [← hcb] at hcv
          have HW11 := hide (And.intro (hA.setA n (13 + ar) hn (by omega) (783 + n * 31 + 13 + ar) (by omega) (.string (q ++ cb)) { d.T n with texts := updF (d.T n).texts ar l1 } rfl (fun j hj => by rw [cellDT_text' _ _ _ _ har j hj, HQQ.out])) (HFZ.out.trans ((DFr.of sv lv (box_below Y (.cells #[.int .u8 (bt : Nat)] 5))).trans ((DFr.of sv lv (Below.refl _ _).drew).trans (DFr.set (g := g) sv lv _ (783 + n * 31 + 13 + ar) (.string (q ++ cb)))))))
          clear hA hcb hl1
          go_wp2_with fail
          refine wp_region_any (by kernel_rfl) ?_
          change wpAny _ _ _ _ _ _ _ (World.drew _)
          refine Gl.wpAny_takeOf 0 (some 86) (Value.pointer (some ⟨g, 783 + n * 31, none⟩)) rfl rfl (by kernel_rfl) (by kernel_rfl) (by kernel_rfl) (fun _ _ _ h => h) (Or.inl ⟨by rfl, ?_⟩) ?_
          · intro wx
            go_simp
          try simp only [Act.put, List.setIfInBounds_toArray, List.set_cons_zero, List.set_cons_succ]
          refine Gl.wpAny_takeOf 1 (some 87) (Value.pointer (some ⟨g, 783 + n * 31, none⟩)) rfl rfl (by kernel_rfl) (by kernel_rfl) (by kernel_rfl) (fun _ _ _ h => h) (Or.inl ⟨by rfl, ?_⟩) ?_
          · intro wx
            go_simp
          try simp only [Act.put, List.setIfInBounds_toArray, List.set_cons_zero, List.set_cons_succ]
          refine Gl.wpAny_takeOf 2 (some 88) (Value.pointer (some ⟨g, 783 + n * 31, none⟩)) rfl rfl (by kernel_rfl) (by kernel_rfl) (by kernel_rfl) (fun _ _ _ h => h) (Or.inl ⟨by rfl, ?_⟩) ?_
          · intro wx
            go_simp
          try simp only [Act.put, List.setIfInBounds_toArray, List.set_cons_zero, List.set_cons_succ]
          refine Gl.wpAny_takeOf 3 (some 89) (Value.pointer (some ⟨g, 783 + n * 31 + 17, none⟩)) rfl rfl (by kernel_rfl) (by kernel_rfl) (by kernel_rfl) (fun _ _ _ h => h) (Or.inl ⟨by rfl, ?_⟩) ?_
          · intro wx
            go_simp
          try simp only [Act.put, List.setIfInBounds_toArray, List.set_cons_zero, List.set_cons_succ]
          refine Gl.wpAny_takeOf 5 (some 91) (.string q) rfl rfl (by kernel_rfl) (by kernel_rfl) (by kernel_rfl) (fun _ _ _ h => h) (Or.inl ⟨by rfl, ?_⟩) ?_
          · intro wx
            go_simp
          try simp only [Act.put, List.setIfInBounds_toArray, List.set_cons_zero, List.set_cons_succ]
          refine Gl.wpAny_takeOf 6 (some 92) (.int .u8 bt) rfl rfl (by kernel_rfl) (by kernel_rfl) (by kernel_rfl) (fun _ _ _ h => h) (Or.inl ⟨by rfl, ?_⟩) ?_
          · intro wx
            go_simp
          try simp only [Act.put, List.setIfInBounds_toArray, List.set_cons_zero, List.set_cons_succ]
          refine Gl.wpAny_takeOf 10 (some 96) (Value.pointer (some ⟨g, 783 + n * 31, none⟩)) rfl rfl (by kernel_rfl) (by kernel_rfl) (by kernel_rfl) (fun _ _ _ h => h) (Or.inl ⟨by rfl, ?_⟩) ?_
          · intro wx
            go_simp
          try simp only [Act.put, List.setIfInBounds_toArray, List.set_cons_zero, List.set_cons_succ]
          refine Gl.wpAny_takeOf 11 (some 97) (Value.pointer (some ⟨g, 783 + n * 31 + 13, none⟩)) rfl rfl (by kernel_rfl) (by kernel_rfl) (by kernel_rfl) (fun _ _ _ h => h) (Or.inl ⟨by rfl, ?_⟩) ?_
          · intro wx
            go_simp
          try simp only [Act.put, List.setIfInBounds_toArray, List.set_cons_zero, List.set_cons_succ]
          refine wpAny_two (i := 4) (j := 7) (by kernel_rfl) rfl rfl rfl rfl (fun K hK => ?_) (fun K hK => ?_)
          · go_simp
            refine hK _ _ ?_
            clear hK K
            try simp only [Act.put, List.setIfInBounds_toArray, List.set_cons_zero, List.set_cons_succ]
            refine Gl.wpAny_only (i := 7) (by kernel_rfl) rfl rfl (fun K hK => ?_)
            go_simp
            refine hK _ _ ?_
            clear hK K
            try simp only [Act.put, List.setIfInBounds_toArray, List.set_cons_zero, List.set_cons_succ]
            refine Gl.wpAny_only (i := 8) (by kernel_rfl) rfl rfl (fun K hK => ?_)
            go_simp
            refine hK _ _ ?_
            clear hK K
            try simp only [Act.put, List.setIfInBounds_toArray, List.set_cons_zero, List.set_cons_succ]
            refine Gl.wpAny_only (i := 9) (by kernel_rfl) rfl rfl (fun K hK => ?_)
            go_simp
            refine hK _ _ ?_
            clear hK K
            try simp only [Act.put, List.setIfInBounds_toArray, List.set_cons_zero, List.set_cons_succ]
            refine Gl.wpAny_only (i := 12) (by kernel_rfl) rfl rfl (fun K hK => ?_)
            go_simp
            refine hK _ _ ?_
            clear hK K
            try simp only [Act.put, List.setIfInBounds_toArray, List.set_cons_zero, List.set_cons_succ]
            refine Gl.wpAny_only (i := 13) (by kernel_rfl) rfl rfl (fun K hK => ?_)
            go_simp
            refine hK _ _ ?_
            clear hK K
            try simp only [Act.put, List.setIfInBounds_toArray, List.set_cons_zero, List.set_cons_succ]
            refine wpAny_done (by kernel_rfl) ?_ _
            go_wp2
            go_end0
            rw [HSP.out]
            exact ⟨rfl, sv, lv, HW11.out.1, HW11.out.2⟩
          · go_simp
            refine hK _ _ ?_
            clear hK K
            try simp only [Act.put, List.setIfInBounds_toArray, List.set_cons_zero, List.set_cons_succ]
            refine wpAny_two (i := 4) (j := 8) (by kernel_rfl) rfl rfl rfl rfl (fun K hK => ?_) (fun K hK => ?_)
            · go_simp
              refine hK _ _ ?_
              clear hK K
              try simp only [Act.put, List.setIfInBounds_toArray, List.set_cons_zero, List.set_cons_succ]
              refine Gl.wpAny_only (i := 8) (by kernel_rfl) rfl rfl (fun K hK => ?_)
              go_simp
              refine hK _ _ ?_
              clear hK K
              try simp only [Act.put, List.setIfInBounds_toArray, List.set_cons_zero, List.set_cons_succ]
              refine Gl.wpAny_only (i := 9) (by kernel_rfl) rfl rfl (fun K hK => ?_)
              go_simp
              refine hK _ _ ?_
              clear hK K
              try simp only [Act.put, List.setIfInBounds_toArray, List.set_cons_zero, List.set_cons_succ]
              refine Gl.wpAny_only (i := 12) (by kernel_rfl) rfl rfl (fun K hK => ?_)
              go_simp
              refine hK _ _ ?_
              clear hK K
              try simp only [Act.put, List.setIfInBounds_toArray, List.set_cons_zero, List.set_cons_succ]
              refine Gl.wpAny_only (i := 13) (by kernel_rfl) rfl rfl (fun K hK => ?_)
              go_simp
              refine hK _ _ ?_
              clear hK K
              try simp only [Act.put, List.setIfInBounds_toArray, List.set_cons_zero, List.set_cons_succ]
              refine wpAny_done (by kernel_rfl) ?_ _
              go_wp2
              go_end0
              rw [HSP.out]
              exact ⟨rfl, sv, lv, HW11.out.1, HW11.out.2⟩
            · go_simp
              refine hK _ _ ?_
              clear hK K
              try simp only [Act.put, List.setIfInBounds_toArray, List.set_cons_zero, List.set_cons_succ]
              refine wpAny_two (i := 4) (j := 9) (by kernel_rfl) rfl rfl rfl rfl (fun K hK => ?_) (fun K hK => ?_)
              · go_simp
                refine hK _ _ ?_
                clear hK K
                try simp only [Act.put, List.setIfInBounds_toArray, List.set_cons_zero, List.set_cons_succ]
                refine Gl.wpAny_only (i := 9) (by kernel_rfl) rfl rfl (fun K hK => ?_)
                go_simp
                refine hK _ _ ?_
                clear hK K
                try simp only [Act.put, List.setIfInBounds_toArray, List.set_cons_zero, List.set_cons_succ]
                refine Gl.wpAny_only (i := 12) (by kernel_rfl) rfl rfl (fun K hK => ?_)
                go_simp
                refine hK _ _ ?_
                clear hK K
                try simp only [Act.put, List.setIfInBounds_toArray, List.set_cons_zero, List.set_cons_succ]
                refine Gl.wpAny_only (i := 13) (by kernel_rfl) rfl rfl (fun K hK => ?_)
                go_simp
                refine hK _ _ ?_
                clear hK K
                try simp only [Act.put, List.setIfInBounds_toArray, List.set_cons_zero, List.set_cons_succ]
                refine wpAny_done (by kernel_rfl) ?_ _
                go_wp2
                go_end0
                rw [HSP.out]
                exact ⟨rfl, sv, lv, HW11.out.1, HW11.out.2⟩
              · go_simp
                refine hK _ _ ?_
                clear hK K
                try simp only [Act.put, List.setIfInBounds_toArray, List.set_cons_zero, List.set_cons_succ]
                refine Gl.wpAny_only (i := 4) (by kernel_rfl) rfl rfl (fun K hK => ?_)
                go_simp
                refine hK _ _ ?_
                clear hK K
                try simp only [Act.put, List.setIfInBounds_toArray, List.set_cons_zero, List.set_cons_succ]
                refine Gl.wpAny_only (i := 12) (by kernel_rfl) rfl rfl (fun K hK => ?_)
                go_simp
                refine hK _ _ ?_
                clear hK K
                try simp only [Act.put, List.setIfInBounds_toArray, List.set_cons_zero, List.set_cons_succ]
                refine Gl.wpAny_only (i := 13) (by kernel_rfl) rfl rfl (fun K hK => ?_)
                go_simp
                refine hK _ _ ?_
                clear hK K
                try simp only [Act.put, List.setIfInBounds_toArray, List.set_cons_zero, List.set_cons_succ]
                refine wpAny_done (by kernel_rfl) ?_ _
                go_wp2
                go_end0
                rw [HSP.out]
                exact ⟨rfl, sv, lv, HW11.out.1, HW11.out.2⟩
    · as_aux_lemma =>
      have b2 : ((kd : Int) == 2) = false := by simpa using (show ¬ (kd : Int) = 2 by omega)
      rw [if_neg (show ¬ kd = 2 by omega)] at HSP
      clear hk3
      go_wp2_with fail
      go_quiet ((go_at_call 44; exact Calls.quiet_of_same (HK _)))
      obtain ⟨Y, hY⟩ : ∃ Y, Y = Z.drewN nq := ⟨_, rfl⟩
      have hby : Below W.heap.size W Y := by rw [hY]; exact below_drewN hbz _
      have HZ := hide (HH.out.on hby)
      have HFZ := hide (DFr.of (g := g) sv lv hby)
      rw [← hY]
      clear hY hbz hby z1 z4 nq HK w1 hwr
      have HZD := hide (HZ.out.on (Below.refl _ _).drew)
      have HFD := hide (HFZ.out.trans (DFr.of sv lv (Below.refl _ _).drew))
      obtain ⟨l1, hl1⟩ : ∃ l, l = rd ++ [UInt8.ofNat bt] := ⟨_, rfl⟩
      rw [← hl1] at HSP
      obtain ⟨cb, hcb⟩ : ∃ c, c = bs [UInt8.ofNat bt] := ⟨_, rfl⟩
      have hcat : ¬ 9223372036854775807 < q.size + cb.size := by rw [hcb, bs_size]; simp only [List.length_singleton]; have := HQS.out; omega
      obtain ⟨q1, hq1⟩ : ∃ x, x = q ++ cb := ⟨_, rfl⟩
      have HQ1 := hide (show q1 = bs l1 by rw [hq1, hcb, HQ.out, hl1, bs_append])
      have HS1 := hide (show q1.size = l1.length by rw [HQ1.out, bs_size])
      have hcv := conv_one (Y.alloc (.cells #[.int .u8 (bt : Nat)] 5)) Y.heap.size bt hb256 (cell_of_row _ _ 0 _ _ _ (heap_alloc_new Y _))
      rw [← hcb] at hcv
      obtain ⟨Y1, hY1⟩ : ∃ Y1, Y1 = Y.alloc (.cells #[.int .u8 (bt : Nat)] 5) := ⟨_, rfl⟩
      have hA : DX g P d sv lv Y1.drew := by rw [hY1]; exact (HZ.out.on (box_below Y _)).on (Below.refl _ _).drew
      have hFA : DFr g sv lv sv lv W Y1.drew := by rw [hY1]; exact HFZ.out.trans ((DFr.of sv lv (box_below Y _)).trans (DFr.of sv lv (Below.refl _ _).drew))
      have u17 : Y1.drew.cell? ⟨g, 783 + n * 31 + 17, none⟩ = some (.int .i64 (ar : Nat)) := by rw [hA.th n 17 hn (by omega), HAR.out]; rfl
      have u13 : Y1.drew.cell? ⟨g, 783 + n * 31 + 13 + ar, none⟩ = some (.string (bs ((d.T n).texts ar))) := by rw [Nat.add_assoc (783 + n * 31), hA.th n (13 + ar) hn (by omega), cellDT_text _ _ _ har]
      have f13 := hA.fro (783 + n * 31 + 13 + ar)
      have HW13 := hide (And.intro (hA.setA n (13 + ar) hn (by omega) (783 + n * 31 + 13 + ar) (by omega) (.string q1) { d.T n with texts := updF (d.T n).texts ar l1 } rfl (fun j hj => by rw [cellDT_text' _ _ _ _ har j hj, HQ1.out])) (hFA.trans (DFr.set (g := g) sv lv _ (783 + n * 31 + 13 + ar) (.string q1))))
      clear hA hFA hcb hl1
      go_wp2_with fail
      rw [← hq1, ← hY1]
      clear hq1 hY1 hcv hcat HZ HFZ HZD HFD
      refine wp_region_any (by kernel_rfl) ?_
      change wpAny _ _ _ _ _ _ _ (World.drew _)
      refine Gl.wpAny_takeOf 0 (some 104) (Value.pointer (some ⟨g, 783 + n * 31, none⟩)) rfl rfl (by kernel_rfl) (by kernel_rfl) (by kernel_rfl) (fun _ _ _ h => h) (Or.inl ⟨by rfl, ?_⟩) ?_
      · intro wx
        go_simp
      try simp only [Act.put, List.setIfInBounds_toArray, List.set_cons_zero, List.set_cons_succ]
      refine Gl.wpAny_takeOf 1 (some 105) (Value.pointer (some ⟨g, 783 + n * 31, none⟩)) rfl rfl (by kernel_rfl) (by kernel_rfl) (by kernel_rfl) (fun _ _ _ h => h) (Or.inl ⟨by rfl, ?_⟩) ?_
      · intro wx
        go_simp
      try simp only [Act.put, List.setIfInBounds_toArray, List.set_cons_zero, List.set_cons_succ]
      refine Gl.wpAny_takeOf 2 (some 106) (Value.pointer (some ⟨g, 783 + n * 31, none⟩)) rfl rfl (by kernel_rfl) (by kernel_rfl) (by kernel_rfl) (fun _ _ _ h => h) (Or.inl ⟨by rfl, ?_⟩) ?_
      · intro wx
        go_simp
      try simp only [Act.put, List.setIfInBounds_toArray, List.set_cons_zero, List.set_cons_succ]
      refine Gl.wpAny_takeOf 3 (some 107) (Value.pointer (some ⟨g, 783 + n * 31 + 17, none⟩)) rfl rfl (by kernel_rfl) (by kernel_rfl) (by kernel_rfl) (fun _ _ _ h => h) (Or.inl ⟨by rfl, ?_⟩) ?_
      · intro wx
        go_simp
      try simp only [Act.put, List.setIfInBounds_toArray, List.set_cons_zero, List.set_cons_succ]
      refine Gl.wpAny_takeOf 5 (some 109) (.string q1) rfl rfl (by kernel_rfl) (by kernel_rfl) (by kernel_rfl) (fun _ _ _ h => h) (Or.inl ⟨by rfl, ?_⟩) ?_
      · intro wx
        go_simp
      try simp only [Act.put, List.setIfInBounds_toArray, List.set_cons_zero, List.set_cons_succ]
      refine Gl.wpAny_takeOf 6 (some 110) (Value.pointer (some ⟨g, 783 + n * 31, none⟩)) rfl rfl (by kernel_rfl) (by kernel_rfl) (by kernel_rfl) (fun _ _ _ h => h) (Or.inl ⟨by rfl, ?_⟩) ?_
      · intro wx
        go_simp
      try simp only [Act.put, List.setIfInBounds_toArray, List.set_cons_zero, List.set_cons_succ]
      refine Gl.wpAny_takeOf 7 (some 111) (Value.pointer (some ⟨g, 783 + n * 31 + 13, none⟩)) rfl rfl (by kernel_rfl) (by kernel_rfl) (by kernel_rfl) (fun _ _ _ h => h) (Or.inl ⟨by rfl, ?_⟩) ?_
      · intro wx
        go_simp
      try simp only [Act.put, List.setIfInBounds_toArray, List.set_cons_zero, List.set_cons_succ]
      refine Gl.wpAny_only (i := 4) (by kernel_rfl) rfl rfl (fun K hK => ?_)
      go_simp
      refine hK _ _ ?_
      clear hK K
      try simp only [Act.put, List.setIfInBounds_toArray, List.set_cons_zero, List.set_cons_succ]
      refine Gl.wpAny_only (i := 8) (by kernel_rfl) rfl rfl (fun K hK => ?_)
      go_simp
      refine hK _ _ ?_
      clear hK K
      try simp only [Act.put, List.setIfInBounds_toArray, List.set_cons_zero, List.set_cons_succ]
      refine Gl.wpAny_only (i := 9) (by kernel_rfl) rfl rfl (fun K hK => ?_)
      go_simp
      refine hK _ _ ?_
      clear hK K
      try simp only [Act.put, List.setIfInBounds_toArray, List.set_cons_zero, List.set_cons_succ]
      refine wpAny_done (by kernel_rfl) ?_ _
      obtain ⟨V, hV⟩ : ∃ V, V = (Y1.setCell ⟨g, 783 + n * 31 + 13 + ar, none⟩ (.string q1)).drew := ⟨_, rfl⟩
      replace HW13 : Hid (DX g P (d.put n { d.T n with texts := updF (d.T n).texts ar l1 }) sv lv V ∧ DFr g sv lv sv lv W V) := by rw [hV]; exact HW13
      rw [← hV]
      clear hV u17 u13 f13
      by_cases h16 : q1.size < 16
      · as_aux_lemma =>
        have s16 : (q1.size : Int) < 16 := by omega
        rw [if_pos (show l1.length < 16 by rw [← HS1.out]; exact h16)] at HSP
        clear h16
        go_wp2
        go_end0
        rw [HSP.out]
        exact ⟨rfl, sv, lv, HW13.out.1, HW13.out.2⟩
      · as_aux_lemma =>
        have s16 : ¬ (q1.size : Int) < 16 := by omega
        rw [if_neg (show ¬ l1.length < 16 by rw [← HS1.out]; exact h16), ← HQ1.out] at HSP
        clear h16
        have HAO := addrOf_any q1 V
        obtain ⟨rr, hrr⟩ : ∃ r, r = readR q1 := ⟨_, rfl⟩
        rw [← hrr] at HAO HSP
        have HRR := hide hrr
        clear hrr
        cases rr with
        | none => as_aux_lemma =>
          unfold ofV at HAO
          simp only at HAO HSP
          go_wp2_with fail
          refine HAO.mono ?_
          rintro e X ⟨rfl, hX⟩
          have HX := hide (HW13.out.1.on hX)
          have HFX := hide (HW13.out.2.trans (DFr.of sv lv hX))
          clear hX HAO HW13
          have HE := dend2 n hn 22 HX.out hlog (by rw [T_dput]; exact hs64)
          rw [show dend n 2 22 zeroVS (d.put n { d.T n with texts := updF (d.T n).texts ar l1 }) = dend n 2 22 zeroVS d from dend_dput (t := { d.T n with texts := updF (d.T n).texts ar l1 }) rfl rfl 2 22 zeroVS] at HE
          go_wp2_with fail
          refine HE.mono ?_
          rintro e w' hG
          obtain ⟨rfl, h1⟩ := DGoes.from HFX.out hG
          clear hG
          go_wp2
          go_end0
          rw [HSP.out]
          exact ⟨rfl, h1⟩
        | some pr => as_aux_lemma =>
          obtain ⟨ip, port⟩ := pr
          unfold ofV at HAO
          simp only at HAO HSP
          go_wp2_with fail
          refine HAO.mono ?_
          rintro e X ⟨rfl, hX⟩
          have HX := hide ((HW13.out.1.on hX).on (Below.refl _ _).drew)
          have HFX := hide (HW13.out.2.trans ((DFr.of sv lv hX).trans (DFr.of sv lv (Below.refl _ _).drew)))
          clear hX HAO HW13
          have u17 : X.drew.cell? ⟨g, 783 + n * 31 + 17, none⟩ = some (.int .i64 (ar : Nat)) := by rw [HX.out.th n 17 hn (by omega), T_dput, HAR.out]; rfl
          have u1 : X.drew.cell? ⟨g, 783 + n * 31 + 18 + ar * 3 + 1, none⟩ = some (.int .u32 (((d.T n).vals ar).ip : Nat)) := by rw [show 783 + n * 31 + 18 + ar * 3 + 1 = 783 + n * 31 + (18 + ar * 3 + 1) by omega, HX.out.th n (18 + ar * 3 + 1) hn (by omega), T_dput, (cellDT_val _ _ _ har).2.1]
          have f1 := HX.out.fro (783 + n * 31 + 18 + ar * 3 + 1)
          have HW18 := hide (And.intro (HX.out.setPA (18 + ar * 3 + 1) hn (by omega) (783 + n * 31 + 18 + ar * 3 + 1) (by omega) (.int .u32 (ip : Nat)) { d.T n with texts := updF (d.T n).texts ar l1, vals := updF (d.T n).vals ar ⟨((d.T n).vals ar).path, ip, ((d.T n).vals ar).port⟩ } rfl (fun j hj => cellDT_ip' ({ d.T n with texts := updF (d.T n).texts ar l1 }) (sv n) ar ip har j hj)) (HFX.out.trans (DFr.set (g := g) sv lv X.drew (783 + n * 31 + 18 + ar * 3 + 1) (.int .u32 (ip : Nat)))))
          clear HX HFX
          go_wp2_with fail
          refine wp_region_any (by kernel_rfl) ?_
          change wpAny _ _ _ _ _ _ _ (World.drew _)
          refine Gl.wpAny_takeOf 0 (some 128) (Value.pointer (some ⟨g, 783 + n * 31, none⟩)) rfl rfl (by kernel_rfl) (by kernel_rfl) (by kernel_rfl) (fun _ _ _ h => h) (Or.inl ⟨by rfl, ?_⟩) ?_
          · intro wx
            go_simp
          try simp only [Act.put, List.setIfInBounds_toArray, List.set_cons_zero, List.set_cons_succ]
          refine Gl.wpAny_takeOf 1 (some 129) (Value.pointer (some ⟨g, 783 + n * 31, none⟩)) rfl rfl (by kernel_rfl) (by kernel_rfl) (by kernel_rfl) (fun _ _ _ h => h) (Or.inl ⟨by rfl, ?_⟩) ?_
          · intro wx
            go_simp
          try simp only [Act.put, List.setIfInBounds_toArray, List.set_cons_zero, List.set_cons_succ]
          refine Gl.wpAny_takeOf 2 (some 130) (Value.pointer (some ⟨g, 783 + n * 31, none⟩)) rfl rfl (by kernel_rfl) (by kernel_rfl) (by kernel_rfl) (fun _ _ _ h => h) (Or.inl ⟨by rfl, ?_⟩) ?_
          · intro wx
            go_simp
          try simp only [Act.put, List.setIfInBounds_toArray, List.set_cons_zero, List.set_cons_succ]
          refine Gl.wpAny_takeOf 3 (some 131) (Value.pointer (some ⟨g, 783 + n * 31 + 17, none⟩)) rfl rfl (by kernel_rfl) (by kernel_rfl) (by kernel_rfl) (fun _ _ _ h => h) (Or.inl ⟨by rfl, ?_⟩) ?_
          · intro wx
            go_simp
          try simp only [Act.put, List.setIfInBounds_toArray, List.set_cons_zero, List.set_cons_succ]
          refine Gl.wpAny_takeOf 5 (some 133) (.int .u32 (ip : Nat)) rfl rfl (by kernel_rfl) (by kernel_rfl) (by kernel_rfl) (fun _ _ _ h => h) (Or.inl ⟨by rfl, ?_⟩) ?_
          · intro wx
            go_simp
          try simp only [Act.put, List.setIfInBounds_toArray, List.set_cons_zero, List.set_cons_succ]
          refine Gl.wpAny_takeOf 6 (some 134) (Value.pointer (some ⟨g, 783 + n * 31, none⟩)) rfl rfl (by kernel_rfl) (by kernel_rfl) (by kernel_rfl) (fun _ _ _ h => h) (Or.inl ⟨by rfl, ?_⟩) ?_
          · intro wx
            go_simp
          try simp only [Act.put, List.setIfInBounds_toArray, List.set_cons_zero, List.set_cons_succ]
          refine Gl.wpAny_takeOf 7 (some 135) (Value.pointer (some ⟨g, 783 + n * 31 + 18, none⟩)) rfl rfl (by kernel_rfl) (by kernel_rfl) (by kernel_rfl) (fun _ _ _ h => h) (Or.inl ⟨by rfl, ?_⟩) ?_
          · intro wx
            go_simp
          try simp only [Act.put, List.setIfInBounds_toArray, List.set_cons_zero, List.set_cons_succ]
          refine Gl.wpAny_only (i := 4) (by kernel_rfl) rfl rfl (fun K hK => ?_)
          go_simp
          refine hK _ _ ?_
          clear hK K
          try simp only [Act.put, List.setIfInBounds_toArray, List.set_cons_zero, List.set_cons_succ]
          refine Gl.wpAny_only (i := 8) (by kernel_rfl) rfl rfl (fun K hK => ?_)
          go_simp
          refine hK _ _ ?_
          clear hK K
          try simp only [Act.put, List.setIfInBounds_toArray, List.set_cons_zero, List.set_cons_succ]
          refine Gl.wpAny_only (i := 9) (by kernel_rfl) rfl rfl (fun K hK => ?_)
          go_simp
          refine hK _ _ ?_
          clear hK K
          try simp only [Act.put, List.setIfInBounds_toArray, List.set_cons_zero, List.set_cons_succ]
          refine Gl.wpAny_only (i := 10) (by kernel_rfl) rfl rfl (fun K hK => ?_)
          go_simp
          refine hK _ _ ?_
          clear hK K
          try simp only [Act.put, List.setIfInBounds_toArray, List.set_cons_zero, List.set_cons_succ]
          refine wpAny_done (by kernel_rfl) ?_ _
          obtain ⟨X2, hX2⟩ : ∃ V, V = (X.setCell ⟨g, 783 + n * 31 + 18 + ar * 3 + 1, none⟩ (.int .u32 (ip : Nat))).drew := ⟨_, rfl⟩
          replace HW18 : Hid (DX g P (d.put n { d.T n with texts := updF (d.T n).texts ar l1, vals := updF (d.T n).vals ar ⟨((d.T n).vals ar).path, ip, ((d.T n).vals ar).port⟩ }) sv lv X2 ∧ DFr g sv lv sv lv W X2) := by rw [hX2]; exact HW18
          rw [← hX2]
          clear hX2 u17 u1 f1
          have HX := hide (HW18.out.1.on (Below.refl _ _).drew)
          have HFX := hide (HW18.out.2.trans (DFr.of sv lv (Below.refl _ _).drew))
          clear HW18
          have u17 : X2.drew.cell? ⟨g, 783 + n * 31 + 17, none⟩ = some (.int .i64 (ar : Nat)) := by rw [HX.out.th n 17 hn (by omega), T_dput, HAR.out]; rfl
          have u1 : X2.drew.cell? ⟨g, 783 + n * 31 + 18 + ar * 3 + 2, none⟩ = some (.int .i64 ((d.T n).vals ar).port) := by rw [show 783 + n * 31 + 18 + ar * 3 + 2 = 783 + n * 31 + (18 + ar * 3 + 2) by omega, HX.out.th n (18 + ar * 3 + 2) hn (by omega), T_dput, (cellDT_val _ _ _ har).2.2]; simp only [updF_same]
          have f1 := HX.out.fro (783 + n * 31 + 18 + ar * 3 + 2)
          have HW19 := hide (And.intro (HX.out.setPA (18 + ar * 3 + 2) hn (by omega) (783 + n * 31 + 18 + ar * 3 + 2) (by omega) (.int .i64 (port : Nat)) { d.T n with texts := updF (d.T n).texts ar l1, vals := updF (d.T n).vals ar ⟨((d.T n).vals ar).path, ip, port⟩ } rfl (fun j hj => by have := cellDT_port' ({ d.T n with texts := updF (d.T n).texts ar l1, vals := updF (d.T n).vals ar ⟨((d.T n).vals ar).path, ip, ((d.T n).vals ar).port⟩ }) (sv n) ar (port : Nat) har j hj; simp only [updF_same, updF_again] at this; exact this)) (HFX.out.trans (DFr.set (g := g) sv lv X2.drew (783 + n * 31 + 18 + ar * 3 + 2) (.int .i64 (port : Nat)))))
          clear HX HFX
          go_wp2_with fail
          refine wp_region_any (by kernel_rfl) ?_
          change wpAny _ _ _ _ _ _ _ (World.drew _)
          refine Gl.wpAny_takeOf 0 (some 138) (Value.pointer (some ⟨g, 783 + n * 31, none⟩)) rfl rfl (by kernel_rfl) (by kernel_rfl) (by kernel_rfl) (fun _ _ _ h => h) (Or.inl ⟨by rfl, ?_⟩) ?_
          · intro wx
            go_simp
          try simp only [Act.put, List.setIfInBounds_toArray, List.set_cons_zero, List.set_cons_succ]
          refine Gl.wpAny_takeOf 1 (some 139) (Value.pointer (some ⟨g, 783 + n * 31, none⟩)) rfl rfl (by kernel_rfl) (by kernel_rfl) (by kernel_rfl) (fun _ _ _ h => h) (Or.inl ⟨by rfl, ?_⟩) ?_
          · intro wx
            go_simp
          try simp only [Act.put, List.setIfInBounds_toArray, List.set_cons_zero, List.set_cons_succ]
          refine Gl.wpAny_takeOf 2 (some 140) (Value.pointer (some ⟨g, 783 + n * 31, none⟩)) rfl rfl (by kernel_rfl) (by kernel_rfl) (by kernel_rfl) (fun _ _ _ h => h) (Or.inl ⟨by rfl, ?_⟩) ?_
          · intro wx
            go_simp
          try simp only [Act.put, List.setIfInBounds_toArray, List.set_cons_zero, List.set_cons_succ]
          refine Gl.wpAny_takeOf 3 (some 141) (Value.pointer (some ⟨g, 783 + n * 31 + 17, none⟩)) rfl rfl (by kernel_rfl) (by kernel_rfl) (by kernel_rfl) (fun _ _ _ h => h) (Or.inl ⟨by rfl, ?_⟩) ?_
          · intro wx
            go_simp
          try simp only [Act.put, List.setIfInBounds_toArray, List.set_cons_zero, List.set_cons_succ]
          refine Gl.wpAny_takeOf 5 (some 143) (.int .i64 (port : Nat)) rfl rfl (by kernel_rfl) (by kernel_rfl) (by kernel_rfl) (fun _ _ _ h => h) (Or.inl ⟨by rfl, ?_⟩) ?_
          · intro wx
            go_simp
          try simp only [Act.put, List.setIfInBounds_toArray, List.set_cons_zero, List.set_cons_succ]
          refine Gl.wpAny_takeOf 6 (some 144) (Value.pointer (some ⟨g, 783 + n * 31, none⟩)) rfl rfl (by kernel_rfl) (by kernel_rfl) (by kernel_rfl) (fun _ _ _ h => h) (Or.inl ⟨by rfl, ?_⟩) ?_
          · intro wx
            go_simp
          try simp only [Act.put, List.setIfInBounds_toArray, List.set_cons_zero, List.set_cons_succ]
          refine Gl.wpAny_takeOf 7 (some 145) (Value.pointer (some ⟨g, 783 + n * 31 + 18, none⟩)) rfl rfl (by kernel_rfl) (by kernel_rfl) (by kernel_rfl) (fun _ _ _ h => h) (Or.inl ⟨by rfl, ?_⟩) ?_
          · intro wx
            go_simp
          try simp only [Act.put, List.setIfInBounds_toArray, List.set_cons_zero, List.set_cons_succ]
          refine Gl.wpAny_only (i := 4) (by kernel_rfl) rfl rfl (fun K hK => ?_)
          go_simp
          refine hK _ _ ?_
          clear hK K
          try simp only [Act.put, List.setIfInBounds_toArray, List.set_cons_zero, List.set_cons_succ]
          refine Gl.wpAny_only (i := 8) (by kernel_rfl) rfl rfl (fun K hK => ?_)
          go_simp
          refine hK _ _ ?_
          clear hK K
          try simp only [Act.put, List.setIfInBounds_toArray, List.set_cons_zero, List.set_cons_succ]
          refine Gl.wpAny_only (i := 9) (by kernel_rfl) rfl rfl (fun K hK => ?_)
          go_simp
          refine hK _ _ ?_
          clear hK K
          try simp only [Act.put, List.setIfInBounds_toArray, List.set_cons_zero, List.set_cons_succ]
          refine Gl.wpAny_only (i := 10) (by kernel_rfl) rfl rfl (fun K hK => ?_)
          go_simp
          refine hK _ _ ?_
          clear hK K
          try simp only [Act.put, List.setIfInBounds_toArray, List.set_cons_zero, List.set_cons_succ]
          refine wpAny_done (by kernel_rfl) ?_ _
          have HV := HW19
          have HFU := dfurther_any n hn (by rw [T_dput]; show (d.T n).asked.nr ≤ 8; rw [← HN.out]; exact h8) (by rw [T_dput]; show (d.T n).arg < 4; rw [← HAR.out]; exact har) HV.out.1
          rw [T_dput] at HFU
          rw [show dfurther n { d.T n with texts := updF (d.T n).texts ar l1, vals := updF (d.T n).vals ar ⟨((d.T n).vals ar).path, ip, port⟩ } (d.put n { d.T n with texts := updF (d.T n).texts ar l1, vals := updF (d.T n).vals ar ⟨((d.T n).vals ar).path, ip, port⟩ }) = dfurther n { d.T n with texts := updF (d.T n).texts ar l1, vals := updF (d.T n).vals ar ⟨((d.T n).vals ar).path, ip, port⟩ } d from dput_dput _ _ _ _] at HFU
          go_wp2_with fail
          refine HFU.mono ?_
          rintro e w' hG
          obtain ⟨rfl, h1⟩ := DGoes.from HV.out.2 hG
          clear hG
          go_wp2
          go_end0
          rw [HSP.out]
          exact ⟨rfl, h1⟩
end Go.Proofs.YtklibmijiecbfaaGreat
