/- The document's Enter. -/
import Derived.Test.YtklibmijiecbfaaGreatK17
import Derived.Test.YtklibmijiecbfaaGreatK16
namespace Go.Proofs.YtklibmijiecbfaaGreat
open Go.RowKit Mm

def eDT (c : KL) : Array Value := #[.int .i64 1, .int .u32 c.arch, .int .u32 c.nr, .int .u64 c.a0, .int .u64 c.a1, .int .u64 c.a2, .int .u64 c.a3, .int .u32 c.arch, .int .u32 c.nr, .int .u64 c.a0, .int .u64 c.a1, .int .u64 c.a2, .int .u64 c.a3, .string ⟨#[]⟩, .string ⟨#[]⟩, .string ⟨#[]⟩, .string ⟨#[]⟩, .int .i64 0, .string ⟨#[]⟩, .int .u32 0, .int .i64 0, .string ⟨#[]⟩, .int .u32 0, .int .i64 0, .string ⟨#[]⟩, .int .u32 0, .int .i64 0, .string ⟨#[]⟩, .int .u32 0, .int .i64 0, .slice none 0 0]
theorem eDT_at (c : KL) : ∀ j, j < 31 → (eDT c).toList.getD j undef = cellDT (dEnter c) (.slice none 0 0) j := fun j hj => by
 refine cases31 (Q := fun j => (eDT c).toList.getD j undef = cellDT (dEnter c) (.slice none 0 0) j) hj ?_ ?_ ?_ ?_ ?_ ?_ ?_ ?_ ?_ ?_ ?_ ?_ ?_ ?_ ?_ ?_ ?_ ?_ ?_ ?_ ?_ ?_ ?_ ?_ ?_ ?_ ?_ ?_ ?_ ?_ ?_ <;> rfl
theorem eDT_one (c : KL) : (eDT c).all (·.oneCell') = true := by simp [eDT, Value.oneCell']
theorem denter_bad {W : World} (g : Nat) (n : Int) (c : KL) (hf : ¬ (0 ≤ n ∧ n < 3)) :
  Calls Tryz.prog 37 #[.pointer (some ⟨g, 0, none⟩), .int .i64 n, klV c] W fun e w' => e = .returned (.int .i64 1) ∧ Below W.heap.size W w' := by
 unfold klV klC
 by_cases h0 : n < 0
 ·
  go_enter Tryz.func37, Tryz.ntmps37
  go_wp2
  go_ret
  exact ⟨rfl, box_below _ _⟩
 ·
  have h2 : 2 < n := by omega
  go_enter Tryz.func37, Tryz.ntmps37
  go_wp2
  go_ret
  exact ⟨rfl, box_below _ _⟩
theorem denter_dead {g : Nat} {P : PV} {d : DWS} {sv : Nat → Value} {lv : Value} {W : World} (n : Nat) (hn : n < 3) (c : KL) (hq : (d.T n).phase = 6) (h : DX g P d sv lv W) :
  Calls Tryz.prog 37 #[.pointer (some ⟨g, 0, none⟩), .int .i64 n, klV c] W fun e w' => e = .returned (.int .i64 8) ∧ Below W.heap.size W w' := by
 have hX := h.on (box_below W (.cells (klC c) 52))
 have j0 : ¬ (n : Int) < 0 := by omega
 have j1 : (0 : Int) ≤ n := by omega
 have j2 : ¬ (2 : Int) < n := by omega
 have j3 : (n : Int) < 3 := by omega
 have cp := hX.phase n hn
 rw [hq] at cp
 clear h hq hX
 unfold klV klC
 unfold klC at cp
 go_enter Tryz.func37, Tryz.ntmps37
 go_wp2
 go_ret
 exact ⟨rfl, box_below _ _⟩
theorem denter_busy {g : Nat} {P : PV} {d : DWS} {sv : Nat → Value} {lv : Value} {W : World} (n : Nat) (hn : n < 3) (c : KL) (hq : (d.T n).phase ≠ 0) (hq6 : (d.T n).phase ≠ 6) (h : DX g P d sv lv W) :
  Calls Tryz.prog 37 #[.pointer (some ⟨g, 0, none⟩), .int .i64 n, klV c] W fun e w' => e = .returned (.int .i64 7) ∧ Below W.heap.size W w' := by
 have hX := h.on (box_below W (.cells (klC c) 52))
 have j0 : ¬ (n : Int) < 0 := by omega
 have j1 : (0 : Int) ≤ n := by omega
 have j2 : ¬ (2 : Int) < n := by omega
 have j3 : (n : Int) < 3 := by omega
 have cp := hX.phase n hn
 obtain ⟨q, hqq⟩ : ∃ q, q = (d.T n).phase := ⟨_, rfl⟩
 rw [← hqq] at cp hq hq6
 have q6 : ((q : Int) == 6) = false := by rw [beq_eq_false_iff_ne]; omega
 have q0 : (0 : Int) < q := by omega
 clear h hqq hX hq hq6
 unfold klV klC
 unfold klC at cp
 go_enter Tryz.func37, Tryz.ntmps37
 go_wp2
 go_ret
 exact ⟨rfl, box_below _ _⟩
set_option maxHeartbeats 2000000 in
set_option maxRecDepth 20000 in
theorem denter_ok {g : Nat} {P : PV} {d : DWS} {sv : Nat → Value} {lv : Value} {W : World} (n : Nat) (hn : n < 3) (c : KL) (hq : (d.T n).phase = 0) (h : DX g P d sv lv W) :
  Calls Tryz.prog 37 #[.pointer (some ⟨g, 0, none⟩), .int .i64 n, klV c] W fun e w' => e = .returned (.int .i64 0) ∧ ∃ sv', DX g P (d.put n (dEnter c)) sv' lv w' ∧ DFr g sv lv sv' lv W w' := by
 have hX := h.on (box_below W (.cells (klC c) 52))
 have j0 : ¬ (n : Int) < 0 := by omega
 have j1 : (0 : Int) ≤ n := by omega
 have j2 : ¬ (2 : Int) < n := by omega
 have j3 : (n : Int) < 3 := by omega
 have cp := hX.phase n hn
 rw [hq] at cp
 have hY := hX.on (Below.refl _ _).drew
 have HY := hide hY
 obtain ⟨zt, hzt⟩ : ∃ z, z = eDT c := ⟨_, rfl⟩
 have HZT := hide hzt
 have hth := hY.setTh n hn zt (by rw [hzt]; rfl) (dEnter c) rfl (fun j hj => by rw [hzt]; exact eDT_at c j hj)
 have HTH := hide hth.1
 have HFT := hide ((DFr.of (g := g) sv lv (box_below W (.cells (klC c) 52))).trans ((DFr.of sv lv (Below.refl _ _).drew).trans hth.2))
 clear h hX hY hq hzt hth
 unfold klV klC
 unfold klC at cp HY HTH HFT
 go_enter Tryz.func37, Tryz.ntmps37
 go_wp2_with fail
 obtain ⟨r, hr⟩ : ∃ r, r = W.heap.size := ⟨_, rfl⟩
 have hb : (W.alloc (.cells #[.int .u32 c.arch, .int .u32 c.nr, .int .u64 c.a0, .int .u64 c.a1, .int .u64 c.a2, .int .u64 c.a3] 52)).drew.heap[r]? = some (.cells #[.int .u32 c.arch, .int .u32 c.nr, .int .u64 c.a0, .int .u64 c.a1, .int .u64 c.a2, .int .u64 c.a3] 52 (0, 0)) := by rw [hr]; exact heap_alloc_new W _
 rw [← hr]
 obtain ⟨X, hXX⟩ : ∃ X, X = (W.alloc (.cells #[.int .u32 c.arch, .int .u32 c.nr, .int .u64 c.a0, .int .u64 c.a1, .int .u64 c.a2, .int .u64 c.a3] 52)) := ⟨_, rfl⟩
 rw [← hXX] at hb HY HTH HFT
 rw [← hXX]
 clear hXX hr cp
 have b0 := cell_of_row _ _ 0 _ _ _ hb
 have b1 := cell_of_row _ _ 1 _ _ _ hb
 have b2 := cell_of_row _ _ 2 _ _ _ hb
 have b3 := cell_of_row _ _ 3 _ _ _ hb
 have b4 := cell_of_row _ _ 4 _ _ _ hb
 have b5 := cell_of_row _ _ 5 _ _ _ hb
 simp only [List.getElem?_toArray, List.getElem?_cons_zero, List.getElem?_cons_succ] at b0 b1 b2 b3 b4 b5
 refine wp_region_any (by kernel_rfl) ?_
 change wpAny _ _ _ _ _ _ _ (World.drew _)
 refine Gl.wpAny_takeOf 0 (some 29) (Value.pointer (some ⟨g, 0, none⟩)) rfl rfl (by kernel_rfl) (by kernel_rfl) (by kernel_rfl) (fun _ _ _ h => h) (Or.inl ⟨by rfl, ?_⟩) ?_
 ·
  intro wx
  go_simp
 try simp only [Act.put, LT1, LT2, LT3]
 refine Gl.wpAny_takeOf 1 (some 30) (.int .i64 n) rfl rfl (by kernel_rfl) (by kernel_rfl) (by kernel_rfl) (fun _ _ _ h => h) (Or.inl ⟨by rfl, ?_⟩) ?_
 ·
  intro wx
  go_simp
 try simp only [Act.put, LT1, LT2, LT3]
 refine Gl.wpAny_takeOf 5 (some 34) (Value.pointer (some ⟨g, 0, none⟩)) rfl rfl (by kernel_rfl) (by kernel_rfl) (by kernel_rfl) (fun _ _ _ h => h) (Or.inl ⟨by rfl, ?_⟩) ?_
 ·
  intro wx
  go_simp
 try simp only [Act.put, LT1, LT2, LT3]
 refine Gl.wpAny_takeOf 6 (some 35) (Value.pointer (some ⟨g, 783, none⟩)) rfl rfl (by kernel_rfl) (by kernel_rfl) (by kernel_rfl) (fun _ _ _ h => h) (Or.inl ⟨by rfl, ?_⟩) ?_
 ·
  intro wx
  go_simp
 try simp only [Act.put, LT1, LT2, LT3]
 refine wpAny_two (i := 2) (j := 3) (by kernel_rfl) rfl rfl rfl rfl (fun K hK => ?_) (fun K hK => ?_)
 ·
  go_simp
  refine hK _ _ ?_
  clear hK K
  try simp only [Act.put, LT1, LT2, LT3]
  refine Gl.wpAny_only (i := 3) (by kernel_rfl) rfl rfl (fun K hK => ?_)
  go_simp
  refine hK _ _ ?_
  clear hK K
  try simp only [Act.put, LT1, LT2, LT3]
  refine Gl.wpAny_only (i := 4) (by kernel_rfl) rfl rfl (fun K hK => ?_)
  refine wp_buildC 92 _ rfl (some 33) rfl zt (by rw [HZT.out]; first | kernel_rfl | rfl) ?_
  refine hK _ _ ?_
  clear hK K
  try simp only [Act.put, LT1, LT2, LT3]
  refine Gl.wpAny_only (i := 7) (by kernel_rfl) rfl rfl (fun K hK => ?_)
  go_simp
  refine hK _ _ ?_
  clear hK K
  try simp only [Act.put, LT1, LT2, LT3]
  refine Gl.wpAny_only (i := 8) (by kernel_rfl) rfl rfl (fun K hK => ?_)
  refine wp_store_mid (P := Tryz.prog) 92 _ _ rfl g (783 + n * 31) zt rfl rfl (by intro j hj; exact ⟨by rw [HY.out.cell _ (by have h31 : j < 31 := (by rw [HZT.out] at hj; exact hj); omega) (.inr (by omega))]; rfl, HY.out.fro _⟩) (by rw [HZT.out]; exact size_rthread) (by rw [HZT.out]; exact eDT_one c) ?_
  refine hK _ _ ?_
  clear hK K
  try simp only [Act.put]
  refine wpAny_done (by kernel_rfl) ?_ _
  go_wp2
  go_ret
  exact ⟨rfl, _, HTH.out, HFT.out⟩
 ·
  go_simp
  refine hK _ _ ?_
  clear hK K
  try simp only [Act.put, LT1, LT2, LT3]
  refine Gl.wpAny_only (i := 2) (by kernel_rfl) rfl rfl (fun K hK => ?_)
  go_simp
  refine hK _ _ ?_
  clear hK K
  try simp only [Act.put, LT1, LT2, LT3]
  refine Gl.wpAny_only (i := 4) (by kernel_rfl) rfl rfl (fun K hK => ?_)
  refine wp_buildC 92 _ rfl (some 33) rfl zt (by rw [HZT.out]; first | kernel_rfl | rfl) ?_
  refine hK _ _ ?_
  clear hK K
  try simp only [Act.put, LT1, LT2, LT3]
  refine Gl.wpAny_only (i := 7) (by kernel_rfl) rfl rfl (fun K hK => ?_)
  go_simp
  refine hK _ _ ?_
  clear hK K
  try simp only [Act.put, LT1, LT2, LT3]
  refine Gl.wpAny_only (i := 8) (by kernel_rfl) rfl rfl (fun K hK => ?_)
  refine wp_store_mid (P := Tryz.prog) 92 _ _ rfl g (783 + n * 31) zt rfl rfl (by intro j hj; exact ⟨by rw [HY.out.cell _ (by have h31 : j < 31 := (by rw [HZT.out] at hj; exact hj); omega) (.inr (by omega))]; rfl, HY.out.fro _⟩) (by rw [HZT.out]; exact size_rthread) (by rw [HZT.out]; exact eDT_one c) ?_
  refine hK _ _ ?_
  clear hK K
  try simp only [Act.put]
  refine wpAny_done (by kernel_rfl) ?_ _
  go_wp2
  go_ret
  exact ⟨rfl, _, HTH.out, HFT.out⟩
end Go.Proofs.YtklibmijiecbfaaGreat

/- Step, out of what its five methods do. -/
namespace Go.Proofs.YtklibmijiecbfaaGreat
open Go.RowKit Mm

theorem step_err {g gm : Nat} {P : PV} {s : WS} {lv : Value} {W : World} (n : Int) (hf : aliveF n s ≠ 0) (h : WX g gm P s lv W) :
  Calls Tryz.prog 15 #[.pointer (some ⟨g, 0, none⟩), .int .i64 n] W fun e w' => e = .returned (.tuple #[.bool false, errV (aliveF n s)]) ∧ w' = W := by
 have HA := alive_any n h
 rw [errV_pos hf] at HA
 rw [errV_pos hf]
 obtain ⟨f, hf'⟩ : ∃ f, f = aliveF n s := ⟨_, rfl⟩
 rw [← hf'] at HA
 rw [← hf']
 clear h hf' hf
 go_enter Tryz.func15, Tryz.ntmps15
 go_wp2_with fail
 refine HA.mono ?_
 rintro e w' ⟨rfl, rfl⟩
 go_wp2
 go_ret2
 exact ⟨rfl, rfl⟩
theorem step_idle {g gm : Nat} {P : PV} {s : WS} {lv : Value} {W : World} (n : Nat) (hn : n < 3) (hq : (s.T n).phase = 0) (h : WX g gm P s lv W) :
  Calls Tryz.prog 15 #[.pointer (some ⟨g, 0, none⟩), .int .i64 n] W fun e w' => e = .returned (.tuple #[.bool false, .nilIface]) ∧ w' = W := by
 have HA := alive_any n h
 have j1 : (0 : Int) ≤ n := by omega
 have j2 : (n : Int) < 3 := by omega
 rw [show aliveF n s = 0 by unfold aliveF; rw [if_pos ⟨j1, j2⟩, Int.toNat_natCast, if_neg (by omega)], errV_zero] at HA
 have cp := h.phase n hn
 rw [hq] at cp
 clear h hq
 go_enter Tryz.func15, Tryz.ntmps15
 go_wp2_with fail
 refine HA.mono ?_
 rintro e w' ⟨rfl, rfl⟩
 go_wp2
 go_ret2
 exact ⟨rfl, rfl⟩
theorem step_1 {g gm : Nat} {P : PV} {s : WS} {lv : Value} {W : World} {R : World → Prop} (n : Nat) (hn : n < 3) (hq : (s.T n).phase = 1) (h : WX g gm P s lv W)
  (HC : Calls Tryz.prog 27 #[.pointer (some ⟨g, 0, none⟩), .int .i64 n] W fun e w' => e = .returned (.tuple #[]) ∧ R w') :
  Calls Tryz.prog 15 #[.pointer (some ⟨g, 0, none⟩), .int .i64 n] W fun e w' => e = .returned (.tuple #[.bool true, .nilIface]) ∧ R w' := by
 have HA := alive_any n h
 have j1 : (0 : Int) ≤ n := by omega
 have j2 : (n : Int) < 3 := by omega
 rw [show aliveF n s = 0 by unfold aliveF; rw [if_pos ⟨j1, j2⟩, Int.toNat_natCast, if_neg (by omega)], errV_zero] at HA
 have cp := h.phase n hn
 rw [hq] at cp
 clear h hq
 go_enter Tryz.func15, Tryz.ntmps15
 go_wp2_with fail
 refine HA.mono ?_
 rintro e w' ⟨rfl, rfl⟩
 go_wp2_with fail
 refine HC.mono ?_
 rintro e w' ⟨rfl, hR⟩
 go_wp2
 go_ret2
 exact ⟨rfl, hR⟩
theorem step_2 {g gm : Nat} {P : PV} {s : WS} {lv : Value} {W : World} {R : World → Prop} (n : Nat) (hn : n < 3) (hq : (s.T n).phase = 2) (h : WX g gm P s lv W)
  (HC : Calls Tryz.prog 28 #[.pointer (some ⟨g, 0, none⟩), .int .i64 n] W fun e w' => e = .returned (.tuple #[]) ∧ R w') :
  Calls Tryz.prog 15 #[.pointer (some ⟨g, 0, none⟩), .int .i64 n] W fun e w' => e = .returned (.tuple #[.bool true, .nilIface]) ∧ R w' := by
 have HA := alive_any n h
 have j1 : (0 : Int) ≤ n := by omega
 have j2 : (n : Int) < 3 := by omega
 rw [show aliveF n s = 0 by unfold aliveF; rw [if_pos ⟨j1, j2⟩, Int.toNat_natCast, if_neg (by omega)], errV_zero] at HA
 have cp := h.phase n hn
 rw [hq] at cp
 clear h hq
 go_enter Tryz.func15, Tryz.ntmps15
 go_wp2_with fail
 refine HA.mono ?_
 rintro e w' ⟨rfl, rfl⟩
 go_wp2_with fail
 refine HC.mono ?_
 rintro e w' ⟨rfl, hR⟩
 go_wp2
 go_ret2
 exact ⟨rfl, hR⟩
theorem step_3 {g gm : Nat} {P : PV} {s : WS} {lv : Value} {W : World} {R : World → Prop} (n : Nat) (hn : n < 3) (hq : (s.T n).phase = 3) (h : WX g gm P s lv W)
  (HC : Calls Tryz.prog 29 #[.pointer (some ⟨g, 0, none⟩), .int .i64 n] W fun e w' => e = .returned (.tuple #[]) ∧ R w') :
  Calls Tryz.prog 15 #[.pointer (some ⟨g, 0, none⟩), .int .i64 n] W fun e w' => e = .returned (.tuple #[.bool true, .nilIface]) ∧ R w' := by
 have HA := alive_any n h
 have j1 : (0 : Int) ≤ n := by omega
 have j2 : (n : Int) < 3 := by omega
 rw [show aliveF n s = 0 by unfold aliveF; rw [if_pos ⟨j1, j2⟩, Int.toNat_natCast, if_neg (by omega)], errV_zero] at HA
 have cp := h.phase n hn
 rw [hq] at cp
 clear h hq
 go_enter Tryz.func15, Tryz.ntmps15
 go_wp2_with fail
 refine HA.mono ?_
 rintro e w' ⟨rfl, rfl⟩
 go_wp2_with fail
 refine HC.mono ?_
 rintro e w' ⟨rfl, hR⟩
 go_wp2
 go_ret2
 exact ⟨rfl, hR⟩
theorem step_4 {g gm : Nat} {P : PV} {s : WS} {lv : Value} {W : World} {R : World → Prop} (n : Nat) (hn : n < 3) (hq : (s.T n).phase = 4) (h : WX g gm P s lv W)
  (HC : Calls Tryz.prog 30 #[.pointer (some ⟨g, 0, none⟩), .int .i64 n] W fun e w' => e = .returned (.tuple #[]) ∧ R w') :
  Calls Tryz.prog 15 #[.pointer (some ⟨g, 0, none⟩), .int .i64 n] W fun e w' => e = .returned (.tuple #[.bool true, .nilIface]) ∧ R w' := by
 have HA := alive_any n h
 have j1 : (0 : Int) ≤ n := by omega
 have j2 : (n : Int) < 3 := by omega
 rw [show aliveF n s = 0 by unfold aliveF; rw [if_pos ⟨j1, j2⟩, Int.toNat_natCast, if_neg (by omega)], errV_zero] at HA
 have cp := h.phase n hn
 rw [hq] at cp
 clear h hq
 go_enter Tryz.func15, Tryz.ntmps15
 go_wp2_with fail
 refine HA.mono ?_
 rintro e w' ⟨rfl, rfl⟩
 go_wp2_with fail
 refine HC.mono ?_
 rintro e w' ⟨rfl, hR⟩
 go_wp2
 go_ret2
 exact ⟨rfl, hR⟩
theorem step_5 {g gm : Nat} {P : PV} {s : WS} {lv : Value} {W : World} {R : World → Prop} (n : Nat) (hn : n < 3) (hq : (s.T n).phase = 5) (h : WX g gm P s lv W)
  (HC : Calls Tryz.prog 31 #[.pointer (some ⟨g, 0, none⟩), .int .i64 n] W fun e w' => e = .returned (.tuple #[]) ∧ R w') :
  Calls Tryz.prog 15 #[.pointer (some ⟨g, 0, none⟩), .int .i64 n] W fun e w' => e = .returned (.tuple #[.bool true, .nilIface]) ∧ R w' := by
 have HA := alive_any n h
 have j1 : (0 : Int) ≤ n := by omega
 have j2 : (n : Int) < 3 := by omega
 rw [show aliveF n s = 0 by unfold aliveF; rw [if_pos ⟨j1, j2⟩, Int.toNat_natCast, if_neg (by omega)], errV_zero] at HA
 have cp := h.phase n hn
 rw [hq] at cp
 clear h hq
 go_enter Tryz.func15, Tryz.ntmps15
 go_wp2_with fail
 refine HA.mono ?_
 rintro e w' ⟨rfl, rfl⟩
 go_wp2_with fail
 refine HC.mono ?_
 rintro e w' ⟨rfl, hR⟩
 go_wp2
 go_ret2
 exact ⟨rfl, hR⟩
end Go.Proofs.YtklibmijiecbfaaGreat
