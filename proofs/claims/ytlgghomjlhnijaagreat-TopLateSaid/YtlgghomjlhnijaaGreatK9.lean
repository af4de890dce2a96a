/- Enter. -/
import Derived.Test.YtlgghomjlhnijaaGreatK8
import Derived.Deep.DeepCutAuto
import Derived.Deep.RegionHeld3
import Derived.BigQuiet
import Derived.Deep.QuietTactic
namespace Go.Proofs.YtlgghomjlhnijaaGreat
open Go.RowKit Mm

theorem wenter_err {g gm : Nat} {P : PV} {s : WS} {lv : Value} {W : World} (n : Int) (c : KL) (hf : aliveF n s ≠ 0) (h : WX g gm P s lv W) :
    Calls Tryz.prog 19 #[.pointer (some ⟨g, 0, none⟩), .int .i64 n, klV c] W fun e w' => e = .returned (errV (aliveF n s)) ∧ Below W.heap.size W w' := by
  have HA := alive_any n (h.on (box_below W (.cells (klC c) 40)))
  rw [errV_pos hf] at HA
  rw [errV_pos hf]
  obtain ⟨f, hf'⟩ : ∃ f, f = aliveF n s := ⟨_, rfl⟩
  rw [← hf'] at HA
  rw [← hf']
  clear h hf' hf
  unfold klV klC
  unfold klC at HA
  go_enter Tryz.func19, Tryz.ntmps19
  go_wp2_with fail
  refine HA.mono ?_
  rintro e w' ⟨rfl, rfl⟩
  go_wp2
  go_ret
  exact ⟨rfl, box_below _ _⟩
theorem wenter_busy {g gm : Nat} {P : PV} {s : WS} {lv : Value} {W : World} (n : Nat) (hn : n < 3) (c : KL) (hq : (s.T n).phase ≠ 0) (hq6 : (s.T n).phase ≠ 6) (h : WX g gm P s lv W) :
    Calls Tryz.prog 19 #[.pointer (some ⟨g, 0, none⟩), .int .i64 n, klV c] W fun e w' => e = .returned (errV 7) ∧ Below W.heap.size W w' := by
  have hX := h.on (box_below W (.cells (klC c) 40))
  have HA := alive_any n hX
  have j1 : (0 : Int) ≤ n := by omega
  have j2 : (n : Int) < 3 := by omega
  rw [show aliveF n s = 0 by unfold aliveF; rw [if_pos ⟨j1, j2⟩, Int.toNat_natCast, if_neg hq6], errV_zero] at HA
  rw [errV_pos (by omega)]
  have cp := hX.phase n hn
  obtain ⟨q, hqq⟩ : ∃ q, q = (s.T n).phase := ⟨_, rfl⟩
  rw [← hqq] at cp hq
  have hq' : ¬ ((q : Int) = 0) := by omega
  clear h hqq hq6 hX
  unfold klV klC
  unfold klC at HA cp
  go_enter Tryz.func19, Tryz.ntmps19
  go_wp2_with fail
  refine HA.mono ?_
  rintro e w' ⟨rfl, rfl⟩
  go_wp2
  go_ret
  exact ⟨rfl, box_below _ _⟩
/-- The cells of a thread that enters a call. -/
def eThread (c : KL) : Array Value := #[.int .i64 1, .int .u32 c.arch, .int .u32 c.nr, .int .u64 c.a0, .int .u64 c.a1, .int .u64 c.a2, .int .u64 c.a3, .int .u64 c.a0, .int .u64 c.a1, .int .u64 c.a2, .int .u64 c.a3, .bool false, .bool false, .bool false, .bool false, .int .i64 0, .string ⟨#[]⟩, .string ⟨#[]⟩, .int .u32 0, .int .i64 0, .string ⟨#[]⟩, .int .u32 0, .int .i64 0, .string ⟨#[]⟩, .int .u32 0, .int .i64 0, .string ⟨#[]⟩, .int .u32 0, .int .i64 0]
theorem eThread_at (c : KL) : ∀ j, j < 29 → (eThread c).toList.getD j undef = cellT (enterT c) j := by
  intro j hj
  match j, hj with
  | 0, _ => rfl
  | 1, _ => rfl
  | 2, _ => rfl
  | 3, _ => rfl
  | 4, _ => rfl
  | 5, _ => rfl
  | 6, _ => rfl
  | 7, _ => rfl
  | 8, _ => rfl
  | 9, _ => rfl
  | 10, _ => rfl
  | 11, _ => rfl
  | 12, _ => rfl
  | 13, _ => rfl
  | 14, _ => rfl
  | 15, _ => rfl
  | 16, _ => rfl
  | 17, _ => rfl
  | 18, _ => rfl
  | 19, _ => rfl
  | 20, _ => rfl
  | 21, _ => rfl
  | 22, _ => rfl
  | 23, _ => rfl
  | 24, _ => rfl
  | 25, _ => rfl
  | 26, _ => rfl
  | 27, _ => rfl
  | 28, _ => rfl
  | j + 29, hj => omega
theorem eThread_one (c : KL) : (eThread c).all (·.oneCell') = true := by simp [eThread, Value.oneCell']
theorem eThread_size (c : KL) : (eThread c).size = 29 := rfl
theorem wp_buildC {o : Oper} {a : Act} {w : World} {K : Act → World → Prop} {Q : Exit → Act → World → Prop} (t : TypeId) (parts : Array (Nat × Operand)) (ho : o.op = .build t parts) (d : Option Tmp) (hd : o.dst = d) (cells : Array Value)
    (hf : Tryz.prog.built t (parts.map fun (i, x) => (i, a.eval x)).toList = some cells) (h : K (a.put d (.agg cells)) w) : o.wp Tryz.prog a w K Q := by
  subst hd
  refine wp_build t parts ho (by rw [hf]; rfl) ?_
  rw [hf]
  exact h
set_option maxHeartbeats 2000000 in
set_option maxRecDepth 20000 in
theorem wenter_ok {g gm : Nat} {P : PV} {s : WS} {lv : Value} {W : World} (n : Nat) (hn : n < 3) (c : KL) (hq : (s.T n).phase = 0) (h : WX g gm P s lv W) :
    Calls Tryz.prog 19 #[.pointer (some ⟨g, 0, none⟩), .int .i64 n, klV c] W fun e w' => e = .returned .nilIface ∧ WX g gm P (s.put n (enterT c)) lv w' ∧ Fr g gm lv lv W w' := by
  have hX := h.on (box_below W (.cells (klC c) 40))
  have HA := alive_any n hX
  have j1 : (0 : Int) ≤ n := by omega
  have j2 : (n : Int) < 3 := by omega
  rw [show aliveF n s = 0 by unfold aliveF; rw [if_pos ⟨j1, j2⟩, Int.toNat_natCast, if_neg (by omega)], errV_zero] at HA
  have cp := hX.phase n hn
  rw [hq] at cp
  have hY := hX.on (Below.refl _ _).drew
  have HY := hide hY
  obtain ⟨zt, hzt⟩ : ∃ z, z = eThread c := ⟨_, rfl⟩
  have HZT := hide hzt
  have HTH := hide (hY.setTh n hn zt (by rw [hzt]; rfl) (enterT c) (fun j hj => by rw [hzt]; exact eThread_at c j hj))
  have HFT := hide ((Fr.of (g := g) (gm := gm) lv (box_below W (.cells (klC c) 40))).trans ((Fr.of lv (Below.refl _ _).drew).trans (Fr.cells (g := g) (gm := gm) lv _ (4 + n * 29) zt.toList)))
  clear h hX hY hq hzt
  unfold klV klC
  unfold klC at HA cp HY HTH HFT
  go_enter Tryz.func19, Tryz.ntmps19
  go_wp2_with fail
  refine HA.mono ?_
  rintro e w' ⟨rfl, rfl⟩
  go_wp2_with fail
  obtain ⟨r, hr⟩ : ∃ r, r = W.heap.size := ⟨_, rfl⟩
  have hb : (W.alloc (.cells #[.int .u32 c.arch, .int .u32 c.nr, .int .u64 c.a0, .int .u64 c.a1, .int .u64 c.a2, .int .u64 c.a3] 40)).drew.heap[r]? = some (.cells #[.int .u32 c.arch, .int .u32 c.nr, .int .u64 c.a0, .int .u64 c.a1, .int .u64 c.a2, .int .u64 c.a3] 40 (0, 0)) := by rw [hr]; exact heap_alloc_new W _
  rw [← hr]
  obtain ⟨X, hXX⟩ : ∃ X, X = (W.alloc (.cells #[.int .u32 c.arch, .int .u32 c.nr, .int .u64 c.a0, .int .u64 c.a1, .int .u64 c.a2, .int .u64 c.a3] 40)) := ⟨_, rfl⟩
  rw [← hXX] at hb HY HTH HFT
  rw [← hXX]
  clear hXX hr HA cp
  have b0 := cell_of_row _ _ 0 _ _ _ hb
  have b1 := cell_of_row _ _ 1 _ _ _ hb
  have b2 := cell_of_row _ _ 2 _ _ _ hb
  have b3 := cell_of_row _ _ 3 _ _ _ hb
  have b4 := cell_of_row _ _ 4 _ _ _ hb
  have b5 := cell_of_row _ _ 5 _ _ _ hb
  simp only [List.getElem?_toArray, List.getElem?_cons_zero, List.getElem?_cons_succ] at b0 b1 b2 b3 b4 b5
  refine wp_region_any (by kernel_rfl) ?_
  change wpAny _ _ _ _ _ _ _ (World.drew _)
  refine Gl.wpAny_takeOf 0 (some 23) (.pointer (some ⟨g, 0, none⟩)) rfl rfl (by kernel_rfl) (by kernel_rfl) (by kernel_rfl) (fun _ _ _ h => h) (Or.inl ⟨by rfl, ?_⟩) ?_
  · intro wx
    go_simp
  try simp only [Act.put, List.setIfInBounds_toArray, List.set_cons_zero, List.set_cons_succ]
  refine Gl.wpAny_takeOf 1 (some 24) (.int .i64 n) rfl rfl (by kernel_rfl) (by kernel_rfl) (by kernel_rfl) (fun _ _ _ h => h) (Or.inl ⟨by rfl, ?_⟩) ?_
  · intro wx
    go_simp
  try simp only [Act.put, List.setIfInBounds_toArray, List.set_cons_zero, List.set_cons_succ]
  refine Gl.wpAny_takeOf 3 (some 26) (.pointer (some ⟨r, 2, none⟩)) rfl rfl (by kernel_rfl) (by kernel_rfl) (by kernel_rfl) (fun _ _ _ h => h) (Or.inl ⟨by rfl, ?_⟩) ?_
  · intro wx
    go_simp
  try simp only [Act.put, List.setIfInBounds_toArray, List.set_cons_zero, List.set_cons_succ]
  refine Gl.wpAny_takeOf 6 (some 29) (.pointer (some ⟨g, 0, none⟩)) rfl rfl (by kernel_rfl) (by kernel_rfl) (by kernel_rfl) (fun _ _ _ h => h) (Or.inl ⟨by rfl, ?_⟩) ?_
  · intro wx
    go_simp
  try simp only [Act.put, List.setIfInBounds_toArray, List.set_cons_zero, List.set_cons_succ]
  refine Gl.wpAny_takeOf 7 (some 30) (.pointer (some ⟨g, 4, none⟩)) rfl rfl (by kernel_rfl) (by kernel_rfl) (by kernel_rfl) (fun _ _ _ h => h) (Or.inl ⟨by rfl, ?_⟩) ?_
  · intro wx
    go_simp
  try simp only [Act.put, List.setIfInBounds_toArray, List.set_cons_zero, List.set_cons_succ]
  refine wpAny_two (i := 2) (j := 4) (by kernel_rfl) rfl rfl rfl rfl (fun K hK => ?_) (fun K hK => ?_)
  · go_simp
    refine hK _ _ ?_
    clear hK K
    try simp only [Act.put, List.setIfInBounds_toArray, List.set_cons_zero, List.set_cons_succ]
    refine Gl.wpAny_only (i := 4) (by kernel_rfl) rfl rfl (fun K hK => ?_)
    go_simp
    refine hK _ _ ?_
    clear hK K
    try simp only [Act.put, List.setIfInBounds_toArray, List.set_cons_zero, List.set_cons_succ]
    refine Gl.wpAny_only (i := 5) (by kernel_rfl) rfl rfl (fun K hK => ?_)
    refine wp_buildC 76 _ rfl (some 28) rfl zt (by rw [HZT.out]; first | kernel_rfl | rfl) ?_
    refine hK _ _ ?_
    clear hK K
    try simp only [Act.put, List.setIfInBounds_toArray, List.set_cons_zero, List.set_cons_succ]
    refine Gl.wpAny_only (i := 8) (by kernel_rfl) rfl rfl (fun K hK => ?_)
    go_simp
    refine hK _ _ ?_
    clear hK K
    try simp only [Act.put, List.setIfInBounds_toArray, List.set_cons_zero, List.set_cons_succ]
    refine Gl.wpAny_only (i := 9) (by kernel_rfl) rfl rfl (fun K hK => ?_)
    refine wp_store_mid (P := Tryz.prog) 76 _ _ rfl g (4 + n * 29) zt rfl rfl (by intro j hj; exact ⟨by rw [HY.out.cell _ (by have h29 : j < 29 := (by rw [HZT.out] at hj; exact hj); omega)]; rfl, HY.out.fro _⟩) (by rw [HZT.out]; exact size_thread) (by rw [HZT.out]; exact eThread_one c) ?_
    refine hK _ _ ?_
    clear hK K
    try simp only [Act.put]
    refine wpAny_done (by kernel_rfl) ?_ _
    go_wp2
    go_ret
    exact ⟨rfl, HTH.out, HFT.out⟩
  · go_simp
    refine hK _ _ ?_
    clear hK K
    try simp only [Act.put, List.setIfInBounds_toArray, List.set_cons_zero, List.set_cons_succ]
    refine Gl.wpAny_only (i := 2) (by kernel_rfl) rfl rfl (fun K hK => ?_)
    go_simp
    refine hK _ _ ?_
    clear hK K
    try simp only [Act.put, List.setIfInBounds_toArray, List.set_cons_zero, List.set_cons_succ]
    refine Gl.wpAny_only (i := 5) (by kernel_rfl) rfl rfl (fun K hK => ?_)
    refine wp_buildC 76 _ rfl (some 28) rfl zt (by rw [HZT.out]; first | kernel_rfl | rfl) ?_
    refine hK _ _ ?_
    clear hK K
    try simp only [Act.put, List.setIfInBounds_toArray, List.set_cons_zero, List.set_cons_succ]
    refine Gl.wpAny_only (i := 8) (by kernel_rfl) rfl rfl (fun K hK => ?_)
    go_simp
    refine hK _ _ ?_
    clear hK K
    try simp only [Act.put, List.setIfInBounds_toArray, List.set_cons_zero, List.set_cons_succ]
    refine Gl.wpAny_only (i := 9) (by kernel_rfl) rfl rfl (fun K hK => ?_)
    refine wp_store_mid (P := Tryz.prog) 76 _ _ rfl g (4 + n * 29) zt rfl rfl (by intro j hj; exact ⟨by rw [HY.out.cell _ (by have h29 : j < 29 := (by rw [HZT.out] at hj; exact hj); omega)]; rfl, HY.out.fro _⟩) (by rw [HZT.out]; exact size_thread) (by rw [HZT.out]; exact eThread_one c) ?_
    refine hK _ _ ?_
    clear hK K
    try simp only [Act.put]
    refine wpAny_done (by kernel_rfl) ?_ _
    go_wp2
    go_ret
    exact ⟨rfl, HTH.out, HFT.out⟩
end Go.Proofs.YtlgghomjlhnijaaGreat

/- Filter. -/
namespace Go.Proofs.YtlgghomjlhnijaaGreat
open Go.RowKit Mm

theorem WX.isPol {g gm : Nat} {P : PV} {s : WS} {lv : Value} {W : World} (h : WX g gm P s lv W) : IsPol P.oa P.cap P.p W := h.pol W (fun _ _ _ _ _ => rfl) h.bd
theorem vrow_cells {W : World} {r : Nat} (h : W.heap[r]? = some (.cells #[.int .i64 0, .int .i64 0, .int .i64 0] 101 (0, 0))) :
    (W.cell? ⟨r, 0, none⟩ = some (.int .i64 0) ∧ W.cell? ⟨r, 1, none⟩ = some (.int .i64 0) ∧ W.cell? ⟨r, 2, none⟩ = some (.int .i64 0)) ∧ W.frozen? ⟨r, 0, none⟩ = false ∧ W.frozen? ⟨r, 1, none⟩ = false ∧ W.frozen? ⟨r, 2, none⟩ = false :=
  ⟨⟨cell_of_row _ _ 0 _ _ _ h, cell_of_row _ _ 1 _ _ _ h, cell_of_row _ _ 2 _ _ _ h⟩, frozen_of_row _ _ 0 _ _ h, frozen_of_row _ _ 1 _ _ h, frozen_of_row _ _ 2 _ _ h⟩
theorem vset3 {W : World} {r : Nat} (h : W.heap[r]? = some (.cells #[.int .i64 0, .int .i64 0, .int .i64 0] 101 (0, 0))) (v0 v1 v2 : Value) :
    ((W.setCell ⟨r, 0, none⟩ v0).setCell ⟨r, 1, none⟩ v1).setCell ⟨r, 2, none⟩ v2 = W.setRow r #[v0, v1, v2] := by
  rw [setCell_eq_setRow _ _ 0 _ _ _ _ h, setCell_eq_setRow _ _ 1 _ _ _ _ (setRow_heap _ _ _ _ _ _ h), setRow_again _ _ _ _ _ _ h, setCell_eq_setRow _ _ 2 _ _ _ _ (setRow_heap _ _ _ _ _ _ h), setRow_again _ _ _ _ _ _ h]
  rfl
/-- A cell of another block, behind three stores. -/
theorem keepv {Y : World} {r b o : Nat} {u v0 v1 v2 : Value} (hn : b ≠ r) (h : Y.cell? ⟨b, o, none⟩ = some u) : (((Y.setCell ⟨r, 0, none⟩ v0).setCell ⟨r, 1, none⟩ v1).setCell ⟨r, 2, none⟩ v2).cell? ⟨b, o, none⟩ = some u := by
  rw [cell_heap (Below.heap_setCell _ ⟨r, 2, none⟩ v2 b hn) o, cell_heap (Below.heap_setCell _ ⟨r, 1, none⟩ v1 b hn) o, cell_heap (Below.heap_setCell _ ⟨r, 0, none⟩ v0 b hn) o]
  exact h
set_option maxHeartbeats 2000000 in
set_option maxRecDepth 20000 in
theorem filter_any {g gm : Nat} {P : PV} {s : WS} {lv : Value} {W : World} (n : Nat) (hn : n < 3) (hp : polF P.p = 0) (hk : KlOk (s.T n).call) (h : WX g gm P s lv W) (hlog : s.log.length ≤ 1000000) :
    Calls Tryz.prog 31 #[.pointer (some ⟨g, 0, none⟩), .int .i64 n] W (Goes g gm P (filterS P.p n s) lv W) := by
  have j1 : (0 : Int) ≤ n := by omega
  have j2 : (n : Int) < 3 := by omega
  obtain ⟨k, hkk⟩ : ∃ k, k = (s.T n).call := ⟨_, rfl⟩
  rw [← hkk] at hk
  have HJ := fun X hX => judge_any P.p P.oa P.cap k hk X hX
  have hjv : judgeV P.p k = .tuple #[verV (judgeR P.p k), .nilIface] := by unfold judgeV; rw [if_pos hp, hp]; rfl
  rw [hjv] at HJ
  have hact := judge_act hp k
  have HFS := hide (show filterS P.p n s = if (judgeR P.p k).1.kind = 4 then s.put n { s.T n with phase := 2 } else doS n (judgeR P.p k).1 5 s by rw [hkk]; rfl)
  obtain ⟨⟨⟨ak, ae⟩, ix⟩, hv⟩ : ∃ v, v = judgeR P.p k := ⟨_, rfl⟩
  rw [← hv] at HJ hact HFS
  unfold verV verC polV klV klC at HJ
  simp only at HJ hact HFS
  have c0 : W.cell? ⟨g, 0, none⟩ = some (.slice P.oa P.p.rules.length P.cap) := h.cell 0 (by omega)
  have c1 : W.cell? ⟨g, 1, none⟩ = some (.int .i64 P.p.els.kind) := h.cell 1 (by omega)
  have c2 : W.cell? ⟨g, 2, none⟩ = some (.int .i64 P.p.els.errno) := h.cell 2 (by omega)
  have x1 := h.th n 1 hn (by omega)
  have x2 := h.th n 2 hn (by omega)
  have x3 := h.th n 3 hn (by omega)
  have x4 := h.th n 4 hn (by omega)
  have x5 := h.th n 5 hn (by omega)
  have x6 := h.th n 6 hn (by omega)
  rw [(cellT_call _).1, ← hkk] at x1
  rw [(cellT_call _).2.1, ← hkk] at x2
  rw [(cellT_call _).2.2.1, ← hkk] at x3
  rw [(cellT_call _).2.2.2.1, ← hkk] at x4
  rw [(cellT_call _).2.2.2.2.1, ← hkk] at x5
  rw [(cellT_call _).2.2.2.2.2, ← hkk] at x6
  have hI := h.isPol
  have HI := hide (hI.on (Below.refl _ W).drew)
  have HI2 := hide (hI.on (box_below W (.cells #[.int .i64 0, .int .i64 0, .int .i64 0] 101)).drew)
  have HH := hide h
  have hgW : g ≠ W.heap.size := Nat.ne_of_lt h.glt
  have zb : (W.alloc (.cells #[.int .i64 0, .int .i64 0, .int .i64 0] 101)).drew.heap[W.heap.size]? = some (.cells #[.int .i64 0, .int .i64 0, .int .i64 0] 101 (0, 0)) := heap_alloc_new W _
  have kb := fun {b o v} (hc : W.cell? ⟨b, o, none⟩ = some v) => keep_cell (box_below W (.cells #[.int .i64 0, .int .i64 0, .int .i64 0] 101)) hc
  have y0 := kb c0
  have y1 := kb c1
  have y2 := kb c2
  have z1 := kb x1
  have z2 := kb x2
  have z3 := kb x3
  have z4 := kb x4
  have z5 := kb x5
  have z6 := kb x6
  obtain ⟨pn, hpn⟩ : ∃ m, m = P.p.rules.length := ⟨_, rfl⟩
  obtain ⟨pk, hpk⟩ : ∃ m, m = P.p.els.kind := ⟨_, rfl⟩
  obtain ⟨pe, hpe⟩ : ∃ m, m = P.p.els.errno := ⟨_, rfl⟩
  rw [← hpn] at c0 y0
  rw [← hpk] at c1 y1
  rw [← hpe] at c2 y2
  rw [← hpn, ← hpk, ← hpe] at HJ
  clear kb h hI hkk hv hjv hpn hpk hpe hk
  replace c0 : W.drew.cell? _ = _ := c0
  replace c1 : W.drew.cell? _ = _ := c1
  replace c2 : W.drew.cell? _ = _ := c2
  replace x1 : W.drew.cell? _ = _ := x1
  replace x2 : W.drew.cell? _ = _ := x2
  replace x3 : W.drew.cell? _ = _ := x3
  replace x4 : W.drew.cell? _ = _ := x4
  replace x5 : W.drew.cell? _ = _ := x5
  replace x6 : W.drew.cell? _ = _ := x6
  replace y0 : (W.alloc (.cells #[.int .i64 0, .int .i64 0, .int .i64 0] 101)).drew.cell? _ = _ := y0
  replace y1 : (W.alloc (.cells #[.int .i64 0, .int .i64 0, .int .i64 0] 101)).drew.cell? _ = _ := y1
  replace y2 : (W.alloc (.cells #[.int .i64 0, .int .i64 0, .int .i64 0] 101)).drew.cell? _ = _ := y2
  replace z1 : (W.alloc (.cells #[.int .i64 0, .int .i64 0, .int .i64 0] 101)).drew.cell? _ = _ := z1
  replace z2 : (W.alloc (.cells #[.int .i64 0, .int .i64 0, .int .i64 0] 101)).drew.cell? _ = _ := z2
  replace z3 : (W.alloc (.cells #[.int .i64 0, .int .i64 0, .int .i64 0] 101)).drew.cell? _ = _ := z3
  replace z4 : (W.alloc (.cells #[.int .i64 0, .int .i64 0, .int .i64 0] 101)).drew.cell? _ = _ := z4
  replace z5 : (W.alloc (.cells #[.int .i64 0, .int .i64 0, .int .i64 0] 101)).drew.cell? _ = _ := z5
  replace z6 : (W.alloc (.cells #[.int .i64 0, .int .i64 0, .int .i64 0] 101)).drew.cell? _ = _ := z6
  go_enter Tryz.func31, Tryz.ntmps31
  go_wp2_with fail
  go_cut [5] (fun S wc => ∃ r5 : Nat, S = .pointer (some ⟨r5, 0, none⟩) ∧ Hid (Below W.heap.size W wc) ∧ Hid (wc.heap[r5]? = some (.cells #[.int .i64 ak, .int .i64 ae, .int .i64 ix] 101 (0, 0))))
  case first =>
    go_region_held3 (fun w' => w'.cell? ⟨g, 0, none⟩ = some (.slice P.oa pn P.cap) ∧ w'.cell? ⟨g, 1, none⟩ = some (.int .i64 pk) ∧ w'.cell? ⟨g, 2, none⟩ = some (.int .i64 pe) ∧ w'.cell? ⟨g, 4 + n * 29 + 1, none⟩ = some (.int .u32 k.arch) ∧ w'.cell? ⟨g, 4 + n * 29 + 2, none⟩ = some (.int .u32 k.nr) ∧ w'.cell? ⟨g, 4 + n * 29 + 3, none⟩ = some (.int .u64 k.a0) ∧ w'.cell? ⟨g, 4 + n * 29 + 4, none⟩ = some (.int .u64 k.a1) ∧ w'.cell? ⟨g, 4 + n * 29 + 5, none⟩ = some (.int .u64 k.a2) ∧ w'.cell? ⟨g, 4 + n * 29 + 6, none⟩ = some (.int .u64 k.a3))
      (first | (with_reducible exact ⟨c0, c1, c2, x1, x2, x3, x4, x5, x6⟩) | (with_reducible exact ⟨y0, y1, y2, z1, z2, z3, z4, z5, z6⟩) | (with_reducible exact ⟨r0, r1, r2, r3, r4, r5, r6, r7, r8⟩) | (with_reducible exact ⟨keep_cell (box_below W.drew _) c0, keep_cell (box_below W.drew _) c1, keep_cell (box_below W.drew _) c2, keep_cell (box_below W.drew _) x1, keep_cell (box_below W.drew _) x2, keep_cell (box_below W.drew _) x3, keep_cell (box_below W.drew _) x4, keep_cell (box_below W.drew _) x5, keep_cell (box_below W.drew _) x6⟩) | (with_reducible exact ⟨keep_cell (box_below Y _) r0, keep_cell (box_below Y _) r1, keep_cell (box_below Y _) r2, keep_cell (box_below Y _) r3, keep_cell (box_below Y _) r4, keep_cell (box_below Y _) r5, keep_cell (box_below Y _) r6, keep_cell (box_below Y _) r7, keep_cell (box_below Y _) r8⟩) | (with_reducible exact ⟨keepv hgW r0, keepv hgW r1, keepv hgW r2, keepv hgW r3, keepv hgW r4, keepv hgW r5, keepv hgW r6, keepv hgW r7, keepv hgW r8⟩) | go_keep)
      ((first
        | (go_at_call 45; with_reducible refine (HJ W.drew HI.out).mono ?_; rintro e Y ⟨rfl, hY⟩; have HB := hide (below_next (Below.refl _ W).drew hY); have r0 := keep_cell hY c0; have r1 := keep_cell hY c1; have r2 := keep_cell hY c2; have r3 := keep_cell hY x1; have r4 := keep_cell hY x2; have r5 := keep_cell hY x3; have r6 := keep_cell hY x4; have r7 := keep_cell hY x5; have r8 := keep_cell hY x6; clear hY)
        | (go_at_call 45; refine (HJ (W.alloc (.cells #[.int .i64 0, .int .i64 0, .int .i64 0] 101)).drew HI2.out).mono ?_; rintro e Y ⟨rfl, hY⟩; have HB := hide (below_next (box_below W (.cells #[.int .i64 0, .int .i64 0, .int .i64 0] 101)).drew hY); have r0 := keep_cell hY y0; have r1 := keep_cell hY y1; have r2 := keep_cell hY y2; have r3 := keep_cell hY z1; have r4 := keep_cell hY z2; have r5 := keep_cell hY z3; have r6 := keep_cell hY z4; have r7 := keep_cell hY z5; have r8 := keep_cell hY z6; have uh := (hY.block W.heap.size (by show _ < (W.alloc _).heap.size; rw [World.size_alloc]; exact Nat.lt_succ_self _)).trans zb; obtain ⟨⟨p0, p1, p2⟩, g0, g1, g2⟩ := vrow_cells uh; clear hY)))
    all_goals
      go_wp2_with fail
      go_meet
      case rel => first
        | with_reducible exact ⟨Y.heap.size, rfl, hide (below_next HB.out (box_below _ _)), hide (heap_alloc_new _ _)⟩
        | exact ⟨W.heap.size, rfl, hide (by rw [vset3 uh]; exact below_setRow HB.out (Nat.le_refl _) _), hide (by rw [vset3 uh]; exact setRow_heap _ _ _ _ _ _ uh)⟩
  case rest =>
    obtain ⟨r5, rfl, HB, HR⟩ := hcut
    clear c0 c1 c2 x1 x2 x3 x4 x5 x6 y0 y1 y2 z1 z2 z3 z4 z5 z6 zb HI HI2 HJ
    have d0 : wc.cell? ⟨r5, 0, none⟩ = some (.int .i64 ak) := cell_of_row _ _ 0 _ _ _ HR.out
    have d1 : wc.cell? ⟨r5, 1, none⟩ = some (.int .i64 ae) := cell_of_row _ _ 1 _ _ _ HR.out
    have HX := hide (HH.out.on HB.out)
    by_cases h4 : ak = 4
    · rw [if_pos h4] at HFS
      subst h4
      have cp := HX.out.phase n hn
      have fp := HX.out.fro (4 + n * 29)
      have HS := hide (HX.out.setPhase n 2 hn)
      go_wp2
      go_end0
      rw [HFS.out]
      exact ⟨rfl, lv, HS.out, (Fr.of lv HB.out).trans (Fr.set lv _ _ _)⟩
    · rw [if_neg h4] at HFS
      have ha := hact.resolve_left h4
      have HD := do_any n hn ⟨ak, ae⟩ ha 5 HX.out hlog
      unfold actV at HD
      simp only at HD
      have b4 : (ak == 4) = false := by simpa using h4
      clear hact ha
      go_wp2_with fail
      refine HD.mono ?_
      rintro e w' hG
      obtain ⟨rfl, h1⟩ := hG
      go_wp2
      go_end0
      rw [HFS.out]
      exact Goes.from HB.out ⟨rfl, h1⟩
end Go.Proofs.YtlgghomjlhnijaaGreat

/- Judge. -/
namespace Go.Proofs.YtlgghomjlhnijaaGreat
open Go.RowKit Mm

theorem arow_cells {W : World} {r : Nat} (h : W.heap[r]? = some (.cells #[.int .i64 0, .int .i64 0] 24 (0, 0))) :
    (W.cell? ⟨r, 0, none⟩ = some (.int .i64 0) ∧ W.cell? ⟨r, 1, none⟩ = some (.int .i64 0)) ∧ W.frozen? ⟨r, 0, none⟩ = false ∧ W.frozen? ⟨r, 1, none⟩ = false :=
  ⟨⟨cell_of_row _ _ 0 _ _ _ h, cell_of_row _ _ 1 _ _ _ h⟩, frozen_of_row _ _ 0 _ _ h, frozen_of_row _ _ 1 _ _ h⟩
theorem aset2 {W : World} {r : Nat} (h : W.heap[r]? = some (.cells #[.int .i64 0, .int .i64 0] 24 (0, 0))) (v0 v1 : Value) : (W.setCell ⟨r, 0, none⟩ v0).setCell ⟨r, 1, none⟩ v1 = W.setRow r #[v0, v1] := by
  rw [setCell_eq_setRow _ _ 0 _ _ _ _ h, setCell_eq_setRow _ _ 1 _ _ _ _ (setRow_heap _ _ _ _ _ _ h), setRow_again _ _ _ _ _ _ h]
  rfl
theorem keepa {Y : World} {r b o : Nat} {u v0 v1 : Value} (hn : b ≠ r) (h : Y.cell? ⟨b, o, none⟩ = some u) : ((Y.setCell ⟨r, 0, none⟩ v0).setCell ⟨r, 1, none⟩ v1).cell? ⟨b, o, none⟩ = some u := by
  rw [cell_heap (Below.heap_setCell _ ⟨r, 1, none⟩ v1 b hn) o, cell_heap (Below.heap_setCell _ ⟨r, 0, none⟩ v0 b hn) o]
  exact h
set_option maxHeartbeats 4000000 in
set_option maxRecDepth 20000 in
theorem wjudge_any {g gm : Nat} {P : PV} {s : WS} {lv : Value} {W : World} (n : Nat) (hn : n < 3) (hp : polF P.p = 0) (hk : KlOk (s.T n).call) (hvo : VsOk (vsOf (s.T n).vals)) (h : WX g gm P s lv W) (hlog : s.log.length ≤ 1000000) :
    Calls Tryz.prog 33 #[.pointer (some ⟨g, 0, none⟩), .int .i64 n] W (Goes g gm P (judgeS P.p n s) lv W) := by
  have j1 : (0 : Int) ≤ n := by omega
  have j2 : (n : Int) < 3 := by omega
  obtain ⟨k, hkk⟩ : ∃ k, k = (s.T n).call := ⟨_, rfl⟩
  obtain ⟨v, hvv⟩ : ∃ v, v = vsOf (s.T n).vals := ⟨_, rfl⟩
  rw [← hkk] at hk
  rw [← hvv] at hvo
  have HJ := fun X hX => decide_any P.p P.oa P.cap k hk v hvo X hX
  have hjv : decideV P.p k v = .tuple #[actV (decideR P.p k v), .nilIface] := by unfold decideV; rw [if_pos hp, hp]; rfl
  rw [hjv] at HJ
  have hact := decide_act hp k v
  have HFS := hide (show judgeS P.p n s = doS n (decideR P.p k v) 4 s by rw [hkk, hvv]; rfl)
  obtain ⟨⟨ak, ae⟩, hv⟩ : ∃ a, a = decideR P.p k v := ⟨_, rfl⟩
  rw [← hv] at HJ hact HFS
  unfold actV polV klV klC vsV vsC at HJ
  simp only at HJ hact HFS
  have c0 : W.cell? ⟨g, 0, none⟩ = some (.slice P.oa P.p.rules.length P.cap) := h.cell 0 (by omega)
  have c1 : W.cell? ⟨g, 1, none⟩ = some (.int .i64 P.p.els.kind) := h.cell 1 (by omega)
  have c2 : W.cell? ⟨g, 2, none⟩ = some (.int .i64 P.p.els.errno) := h.cell 2 (by omega)
  have x1 := h.th n 1 hn (by omega)
  have x2 := h.th n 2 hn (by omega)
  have x3 := h.th n 3 hn (by omega)
  have x4 := h.th n 4 hn (by omega)
  have x5 := h.th n 5 hn (by omega)
  have x6 := h.th n 6 hn (by omega)
  rw [(cellT_call _).1, ← hkk] at x1
  rw [(cellT_call _).2.1, ← hkk] at x2
  rw [(cellT_call _).2.2.1, ← hkk] at x3
  rw [(cellT_call _).2.2.2.1, ← hkk] at x4
  rw [(cellT_call _).2.2.2.2.1, ← hkk] at x5
  rw [(cellT_call _).2.2.2.2.2, ← hkk] at x6
  have v0 : W.cell? ⟨g, 4 + n * 29 + 17, none⟩ = some (.string v.v0.path) := by rw [h.th n 17 hn (by omega), hvv]; exact congrArg some (cellT_val _ 0).1
  have v1 : W.cell? ⟨g, 4 + n * 29 + 18, none⟩ = some (.int .u32 v.v0.ip) := by rw [h.th n 18 hn (by omega), hvv]; exact congrArg some (cellT_val _ 0).2.1
  have v2 : W.cell? ⟨g, 4 + n * 29 + 19, none⟩ = some (.int .i64 v.v0.port) := by rw [h.th n 19 hn (by omega), hvv]; exact congrArg some (cellT_val _ 0).2.2
  have v3 : W.cell? ⟨g, 4 + n * 29 + 20, none⟩ = some (.string v.v1.path) := by rw [h.th n 20 hn (by omega), hvv]; exact congrArg some (cellT_val _ 1).1
  have v4 : W.cell? ⟨g, 4 + n * 29 + 21, none⟩ = some (.int .u32 v.v1.ip) := by rw [h.th n 21 hn (by omega), hvv]; exact congrArg some (cellT_val _ 1).2.1
  have v5 : W.cell? ⟨g, 4 + n * 29 + 22, none⟩ = some (.int .i64 v.v1.port) := by rw [h.th n 22 hn (by omega), hvv]; exact congrArg some (cellT_val _ 1).2.2
  have v6 : W.cell? ⟨g, 4 + n * 29 + 23, none⟩ = some (.string v.v2.path) := by rw [h.th n 23 hn (by omega), hvv]; exact congrArg some (cellT_val _ 2).1
  have v7 : W.cell? ⟨g, 4 + n * 29 + 24, none⟩ = some (.int .u32 v.v2.ip) := by rw [h.th n 24 hn (by omega), hvv]; exact congrArg some (cellT_val _ 2).2.1
  have v8 : W.cell? ⟨g, 4 + n * 29 + 25, none⟩ = some (.int .i64 v.v2.port) := by rw [h.th n 25 hn (by omega), hvv]; exact congrArg some (cellT_val _ 2).2.2
  have v9 : W.cell? ⟨g, 4 + n * 29 + 26, none⟩ = some (.string v.v3.path) := by rw [h.th n 26 hn (by omega), hvv]; exact congrArg some (cellT_val _ 3).1
  have v10 : W.cell? ⟨g, 4 + n * 29 + 27, none⟩ = some (.int .u32 v.v3.ip) := by rw [h.th n 27 hn (by omega), hvv]; exact congrArg some (cellT_val _ 3).2.1
  have v11 : W.cell? ⟨g, 4 + n * 29 + 28, none⟩ = some (.int .i64 v.v3.port) := by rw [h.th n 28 hn (by omega), hvv]; exact congrArg some (cellT_val _ 3).2.2
  have hI := h.isPol
  have HI := hide (hI.on (Below.refl _ W).drew)
  have HI2 := hide (hI.on (box_below W (.cells #[.int .i64 0, .int .i64 0] 24)).drew)
  have HH := hide h
  have hgW : g ≠ W.heap.size := Nat.ne_of_lt h.glt
  have zb : (W.alloc (.cells #[.int .i64 0, .int .i64 0] 24)).drew.heap[W.heap.size]? = some (.cells #[.int .i64 0, .int .i64 0] 24 (0, 0)) := heap_alloc_new W _
  have kb := fun {b o v} (hc : W.cell? ⟨b, o, none⟩ = some v) => keep_cell (box_below W (.cells #[.int .i64 0, .int .i64 0] 24)) hc
  have yc0 := kb c0
  have yc1 := kb c1
  have yc2 := kb c2
  have yx1 := kb x1
  have yx2 := kb x2
  have yx3 := kb x3
  have yx4 := kb x4
  have yx5 := kb x5
  have yx6 := kb x6
  have yv0 := kb v0
  have yv1 := kb v1
  have yv2 := kb v2
  have yv3 := kb v3
  have yv4 := kb v4
  have yv5 := kb v5
  have yv6 := kb v6
  have yv7 := kb v7
  have yv8 := kb v8
  have yv9 := kb v9
  have yv10 := kb v10
  have yv11 := kb v11
  obtain ⟨pn, hpn⟩ : ∃ m, m = P.p.rules.length := ⟨_, rfl⟩
  obtain ⟨pk, hpk⟩ : ∃ m, m = P.p.els.kind := ⟨_, rfl⟩
  obtain ⟨pe, hpe⟩ : ∃ m, m = P.p.els.errno := ⟨_, rfl⟩
  rw [← hpn] at c0 yc0
  rw [← hpk] at c1 yc1
  rw [← hpe] at c2 yc2
  rw [← hpn, ← hpk, ← hpe] at HJ
  clear kb h hI hkk hvv hv hjv hpn hpk hpe hk hvo
  replace c0 : W.drew.cell? _ = _ := c0
  replace c1 : W.drew.cell? _ = _ := c1
  replace c2 : W.drew.cell? _ = _ := c2
  replace x1 : W.drew.cell? _ = _ := x1
  replace x2 : W.drew.cell? _ = _ := x2
  replace x3 : W.drew.cell? _ = _ := x3
  replace x4 : W.drew.cell? _ = _ := x4
  replace x5 : W.drew.cell? _ = _ := x5
  replace x6 : W.drew.cell? _ = _ := x6
  replace v0 : W.drew.cell? _ = _ := v0
  replace v1 : W.drew.cell? _ = _ := v1
  replace v2 : W.drew.cell? _ = _ := v2
  replace v3 : W.drew.cell? _ = _ := v3
  replace v4 : W.drew.cell? _ = _ := v4
  replace v5 : W.drew.cell? _ = _ := v5
  replace v6 : W.drew.cell? _ = _ := v6
  replace v7 : W.drew.cell? _ = _ := v7
  replace v8 : W.drew.cell? _ = _ := v8
  replace v9 : W.drew.cell? _ = _ := v9
  replace v10 : W.drew.cell? _ = _ := v10
  replace v11 : W.drew.cell? _ = _ := v11
  replace yc0 : (W.alloc (.cells #[.int .i64 0, .int .i64 0] 24)).drew.cell? _ = _ := yc0
  replace yc1 : (W.alloc (.cells #[.int .i64 0, .int .i64 0] 24)).drew.cell? _ = _ := yc1
  replace yc2 : (W.alloc (.cells #[.int .i64 0, .int .i64 0] 24)).drew.cell? _ = _ := yc2
  replace yx1 : (W.alloc (.cells #[.int .i64 0, .int .i64 0] 24)).drew.cell? _ = _ := yx1
  replace yx2 : (W.alloc (.cells #[.int .i64 0, .int .i64 0] 24)).drew.cell? _ = _ := yx2
  replace yx3 : (W.alloc (.cells #[.int .i64 0, .int .i64 0] 24)).drew.cell? _ = _ := yx3
  replace yx4 : (W.alloc (.cells #[.int .i64 0, .int .i64 0] 24)).drew.cell? _ = _ := yx4
  replace yx5 : (W.alloc (.cells #[.int .i64 0, .int .i64 0] 24)).drew.cell? _ = _ := yx5
  replace yx6 : (W.alloc (.cells #[.int .i64 0, .int .i64 0] 24)).drew.cell? _ = _ := yx6
  replace yv0 : (W.alloc (.cells #[.int .i64 0, .int .i64 0] 24)).drew.cell? _ = _ := yv0
  replace yv1 : (W.alloc (.cells #[.int .i64 0, .int .i64 0] 24)).drew.cell? _ = _ := yv1
  replace yv2 : (W.alloc (.cells #[.int .i64 0, .int .i64 0] 24)).drew.cell? _ = _ := yv2
  replace yv3 : (W.alloc (.cells #[.int .i64 0, .int .i64 0] 24)).drew.cell? _ = _ := yv3
  replace yv4 : (W.alloc (.cells #[.int .i64 0, .int .i64 0] 24)).drew.cell? _ = _ := yv4
  replace yv5 : (W.alloc (.cells #[.int .i64 0, .int .i64 0] 24)).drew.cell? _ = _ := yv5
  replace yv6 : (W.alloc (.cells #[.int .i64 0, .int .i64 0] 24)).drew.cell? _ = _ := yv6
  replace yv7 : (W.alloc (.cells #[.int .i64 0, .int .i64 0] 24)).drew.cell? _ = _ := yv7
  replace yv8 : (W.alloc (.cells #[.int .i64 0, .int .i64 0] 24)).drew.cell? _ = _ := yv8
  replace yv9 : (W.alloc (.cells #[.int .i64 0, .int .i64 0] 24)).drew.cell? _ = _ := yv9
  replace yv10 : (W.alloc (.cells #[.int .i64 0, .int .i64 0] 24)).drew.cell? _ = _ := yv10
  replace yv11 : (W.alloc (.cells #[.int .i64 0, .int .i64 0] 24)).drew.cell? _ = _ := yv11
  go_enter Tryz.func33, Tryz.ntmps33
  go_wp2_with fail
  go_cut [5] (fun S wc => ∃ r5 : Nat, S = .pointer (some ⟨r5, 0, none⟩) ∧ Hid (Below W.heap.size W wc) ∧ Hid (wc.heap[r5]? = some (.cells #[.int .i64 ak, .int .i64 ae] 24 (0, 0))))
  case first =>
    go_region_held3 (fun w' => w'.cell? ⟨g, 0, none⟩ = some (.slice P.oa pn P.cap) ∧ w'.cell? ⟨g, 1, none⟩ = some (.int .i64 pk) ∧ w'.cell? ⟨g, 2, none⟩ = some (.int .i64 pe) ∧ w'.cell? ⟨g, 4 + n * 29 + 1, none⟩ = some (.int .u32 k.arch) ∧ w'.cell? ⟨g, 4 + n * 29 + 2, none⟩ = some (.int .u32 k.nr) ∧ w'.cell? ⟨g, 4 + n * 29 + 3, none⟩ = some (.int .u64 k.a0) ∧ w'.cell? ⟨g, 4 + n * 29 + 4, none⟩ = some (.int .u64 k.a1) ∧ w'.cell? ⟨g, 4 + n * 29 + 5, none⟩ = some (.int .u64 k.a2) ∧ w'.cell? ⟨g, 4 + n * 29 + 6, none⟩ = some (.int .u64 k.a3) ∧ w'.cell? ⟨g, 4 + n * 29 + 17, none⟩ = some (.string v.v0.path) ∧ w'.cell? ⟨g, 4 + n * 29 + 18, none⟩ = some (.int .u32 v.v0.ip) ∧ w'.cell? ⟨g, 4 + n * 29 + 19, none⟩ = some (.int .i64 v.v0.port) ∧ w'.cell? ⟨g, 4 + n * 29 + 20, none⟩ = some (.string v.v1.path) ∧ w'.cell? ⟨g, 4 + n * 29 + 21, none⟩ = some (.int .u32 v.v1.ip) ∧ w'.cell? ⟨g, 4 + n * 29 + 22, none⟩ = some (.int .i64 v.v1.port) ∧ w'.cell? ⟨g, 4 + n * 29 + 23, none⟩ = some (.string v.v2.path) ∧ w'.cell? ⟨g, 4 + n * 29 + 24, none⟩ = some (.int .u32 v.v2.ip) ∧ w'.cell? ⟨g, 4 + n * 29 + 25, none⟩ = some (.int .i64 v.v2.port) ∧ w'.cell? ⟨g, 4 + n * 29 + 26, none⟩ = some (.string v.v3.path) ∧ w'.cell? ⟨g, 4 + n * 29 + 27, none⟩ = some (.int .u32 v.v3.ip) ∧ w'.cell? ⟨g, 4 + n * 29 + 28, none⟩ = some (.int .i64 v.v3.port))
      (first | (with_reducible exact ⟨c0, c1, c2, x1, x2, x3, x4, x5, x6, v0, v1, v2, v3, v4, v5, v6, v7, v8, v9, v10, v11⟩) | (with_reducible exact ⟨yc0, yc1, yc2, yx1, yx2, yx3, yx4, yx5, yx6, yv0, yv1, yv2, yv3, yv4, yv5, yv6, yv7, yv8, yv9, yv10, yv11⟩) | (with_reducible exact ⟨r0, r1, r2, r3, r4, r5, r6, r7, r8, r9, r10, r11, r12, r13, r14, r15, r16, r17, r18, r19, r20⟩) | (with_reducible exact ⟨keep_cell (box_below W.drew _) c0, keep_cell (box_below W.drew _) c1, keep_cell (box_below W.drew _) c2, keep_cell (box_below W.drew _) x1, keep_cell (box_below W.drew _) x2, keep_cell (box_below W.drew _) x3, keep_cell (box_below W.drew _) x4, keep_cell (box_below W.drew _) x5, keep_cell (box_below W.drew _) x6, keep_cell (box_below W.drew _) v0, keep_cell (box_below W.drew _) v1, keep_cell (box_below W.drew _) v2, keep_cell (box_below W.drew _) v3, keep_cell (box_below W.drew _) v4, keep_cell (box_below W.drew _) v5, keep_cell (box_below W.drew _) v6, keep_cell (box_below W.drew _) v7, keep_cell (box_below W.drew _) v8, keep_cell (box_below W.drew _) v9, keep_cell (box_below W.drew _) v10, keep_cell (box_below W.drew _) v11⟩) | (with_reducible exact ⟨keep_cell (box_below Y _) r0, keep_cell (box_below Y _) r1, keep_cell (box_below Y _) r2, keep_cell (box_below Y _) r3, keep_cell (box_below Y _) r4, keep_cell (box_below Y _) r5, keep_cell (box_below Y _) r6, keep_cell (box_below Y _) r7, keep_cell (box_below Y _) r8, keep_cell (box_below Y _) r9, keep_cell (box_below Y _) r10, keep_cell (box_below Y _) r11, keep_cell (box_below Y _) r12, keep_cell (box_below Y _) r13, keep_cell (box_below Y _) r14, keep_cell (box_below Y _) r15, keep_cell (box_below Y _) r16, keep_cell (box_below Y _) r17, keep_cell (box_below Y _) r18, keep_cell (box_below Y _) r19, keep_cell (box_below Y _) r20⟩) | (with_reducible exact ⟨keepa hgW r0, keepa hgW r1, keepa hgW r2, keepa hgW r3, keepa hgW r4, keepa hgW r5, keepa hgW r6, keepa hgW r7, keepa hgW r8, keepa hgW r9, keepa hgW r10, keepa hgW r11, keepa hgW r12, keepa hgW r13, keepa hgW r14, keepa hgW r15, keepa hgW r16, keepa hgW r17, keepa hgW r18, keepa hgW r19, keepa hgW r20⟩) | go_keep)
      ((first
        | (go_at_call 14; with_reducible refine (HJ W.drew HI.out).mono ?_; rintro e Y ⟨rfl, hY⟩; have HB := hide (below_next (Below.refl _ W).drew hY); have r0 := keep_cell hY c0; have r1 := keep_cell hY c1; have r2 := keep_cell hY c2; have r3 := keep_cell hY x1; have r4 := keep_cell hY x2; have r5 := keep_cell hY x3; have r6 := keep_cell hY x4; have r7 := keep_cell hY x5; have r8 := keep_cell hY x6; have r9 := keep_cell hY v0; have r10 := keep_cell hY v1; have r11 := keep_cell hY v2; have r12 := keep_cell hY v3; have r13 := keep_cell hY v4; have r14 := keep_cell hY v5; have r15 := keep_cell hY v6; have r16 := keep_cell hY v7; have r17 := keep_cell hY v8; have r18 := keep_cell hY v9; have r19 := keep_cell hY v10; have r20 := keep_cell hY v11; clear hY)
        | (go_at_call 14; refine (HJ (W.alloc (.cells #[.int .i64 0, .int .i64 0] 24)).drew HI2.out).mono ?_; rintro e Y ⟨rfl, hY⟩; have HB := hide (below_next (box_below W (.cells #[.int .i64 0, .int .i64 0] 24)).drew hY); have r0 := keep_cell hY yc0; have r1 := keep_cell hY yc1; have r2 := keep_cell hY yc2; have r3 := keep_cell hY yx1; have r4 := keep_cell hY yx2; have r5 := keep_cell hY yx3; have r6 := keep_cell hY yx4; have r7 := keep_cell hY yx5; have r8 := keep_cell hY yx6; have r9 := keep_cell hY yv0; have r10 := keep_cell hY yv1; have r11 := keep_cell hY yv2; have r12 := keep_cell hY yv3; have r13 := keep_cell hY yv4; have r14 := keep_cell hY yv5; have r15 := keep_cell hY yv6; have r16 := keep_cell hY yv7; have r17 := keep_cell hY yv8; have r18 := keep_cell hY yv9; have r19 := keep_cell hY yv10; have r20 := keep_cell hY yv11; have uh := (hY.block W.heap.size (by show _ < (W.alloc _).heap.size; rw [World.size_alloc]; exact Nat.lt_succ_self _)).trans zb; obtain ⟨⟨p0, p1⟩, g0, g1⟩ := arow_cells uh; clear hY)))
    all_goals
      go_wp2_with fail
      go_meet
      case rel => first
        | with_reducible exact ⟨Y.heap.size, rfl, hide (below_next HB.out (box_below _ _)), hide (heap_alloc_new _ _)⟩
        | exact ⟨W.heap.size, rfl, hide (by rw [aset2 uh]; exact below_setRow HB.out (Nat.le_refl _) _), hide (by rw [aset2 uh]; exact setRow_heap _ _ _ _ _ _ uh)⟩
  case rest =>
    obtain ⟨r5, rfl, HB, HR⟩ := hcut
    clear c0 c1 c2 x1 x2 x3 x4 x5 x6 v0 v1 v2 v3 v4 v5 v6 v7 v8 v9 v10 v11 yc0 yc1 yc2 yx1 yx2 yx3 yx4 yx5 yx6 yv0 yv1 yv2 yv3 yv4 yv5 yv6 yv7 yv8 yv9 yv10 yv11 zb HI HI2 HJ
    have d0 : wc.cell? ⟨r5, 0, none⟩ = some (.int .i64 ak) := cell_of_row _ _ 0 _ _ _ HR.out
    have d1 : wc.cell? ⟨r5, 1, none⟩ = some (.int .i64 ae) := cell_of_row _ _ 1 _ _ _ HR.out
    have HX := hide (HH.out.on HB.out)
    have HD := do_any n hn ⟨ak, ae⟩ hact 4 HX.out hlog
    unfold actV at HD
    simp only at HD
    clear hact
    go_wp2_with fail
    refine HD.mono ?_
    rintro e w' hG
    obtain ⟨rfl, h1⟩ := hG
    go_wp2
    go_end0
    rw [HFS.out]
    exact Goes.from HB.out ⟨rfl, h1⟩
end Go.Proofs.YtlgghomjlhnijaaGreat

/- A thread's cells set, one by one. -/
namespace Go.Proofs.YtlgghomjlhnijaaGreat
open Go.RowKit Mm

theorem cellT_read' (t : TH) (l : W8) (k : Nat) : cellT { t with read := l } k = if k = 16 then .string (bs l) else cellT t k := by
  by_cases h : k = 16
  · subst h; rfl
  · rw [if_neg h]
    unfold cellT
    simp only [if_neg h]
theorem cellT_seen' (t : TH) (x k : Nat) : cellT { t with seen := x } k = if k = 15 then .int .i64 x else cellT t k := by
  by_cases h : k = 15
  · subst h; rfl
  · rw [if_neg h]
    unfold cellT
    simp only [if_neg h]
theorem cellT_phase' (t : TH) (x k : Nat) : cellT { t with phase := x } k = if k = 0 then .int .i64 x else cellT t k := by
  by_cases h : k = 0
  · subst h; rfl
  · rw [if_neg h]
    unfold cellT
    simp only [if_neg h]
theorem cellT_arg' (t : TH) (i x k : Nat) (hi : i < 4) : cellT { t with args := updF t.args i x } k = if k = 7 + i then .int .u64 x else cellT t k := by
  by_cases h : k = 7 + i
  · subst h
    rw [if_pos rfl, cellT_arg _ _ hi]
    show Value.int .u64 ((updF t.args i x i : Nat) : Int) = _
    rw [updF_same]
  · rw [if_neg h]
    unfold cellT
    simp only
    split
    · rfl
    · split
      · rfl
      · split
        · rfl
        · split
          · rfl
          · split
            · rw [updF_other _ _ (by omega)]
            · rfl
theorem cellT_sld' (t : TH) (i k : Nat) (x : Bool) (hi : i < 4) : cellT { t with sld := updF t.sld i x } k = if k = 11 + i then .bool x else cellT t k := by
  by_cases h : k = 11 + i
  · subst h
    rw [if_pos rfl, cellT_sld _ _ hi]
    show Value.bool (updF t.sld i x i) = _
    rw [updF_same]
  · rw [if_neg h]
    unfold cellT
    simp only
    split
    · rfl
    · split
      · rfl
      · split
        · rfl
        · split
          · rfl
          · split
            · rfl
            · split
              · rw [updF_other _ _ (by omega)]
              · rfl
theorem cellT_vals' (t : TH) (i k : Nat) (v : VL) (h : ¬ (17 + i * 3 ≤ k ∧ k < 17 + i * 3 + 3)) : cellT { t with vals := updF t.vals i v } k = cellT t k := by
  by_cases h17 : k < 17
  · rcases show k = 0 ∨ k = 1 ∨ k = 2 ∨ k = 3 ∨ k = 4 ∨ k = 5 ∨ k = 6 ∨ k = 7 ∨ k = 8 ∨ k = 9 ∨ k = 10 ∨ k = 11 ∨ k = 12 ∨ k = 13 ∨ k = 14 ∨ k = 15 ∨ k = 16 by omega with rfl | rfl | rfl | rfl | rfl | rfl | rfl | rfl | rfl | rfl | rfl | rfl | rfl | rfl | rfl | rfl | rfl <;> rfl
  · obtain ⟨d, e, hd, hk⟩ : ∃ d e, e < 3 ∧ k = 17 + d * 3 + e := ⟨(k - 17) / 3, (k - 17) % 3, by omega, by omega⟩
    have hne : d ≠ i := by omega
    have h1 := cellT_val { t with vals := updF t.vals i v } d
    have h2 := cellT_val t d
    rw [show ({ t with vals := updF t.vals i v } : TH).vals d = t.vals d from updF_other _ _ hne] at h1
    subst hk
    rcases show e = 0 ∨ e = 1 ∨ e = 2 by omega with rfl | rfl | rfl
    · exact h1.1.trans h2.1.symm
    · exact h1.2.1.trans h2.2.1.symm
    · exact h1.2.2.trans h2.2.2.symm
theorem WX.setT' {g gm : Nat} {P : PV} {s : WS} {lv : Value} {W : World} {n : Nat} {t0 : TH} (h : WX g gm P (s.put n t0) lv W) (j : Nat) (hn : n < 3) (hj : j < 29) (v : Value) (t : TH) (hc : ∀ k, cellT t k = if k = j then v else cellT t0 k) : WX g gm P (s.put n t) lv (W.setCell ⟨g, 4 + n * 29 + j, none⟩ v) := by
  have h1 := h.setT n j hn hj v t (fun k _ => by rw [T_put]; exact hc k)
  rw [put_put] at h1
  exact h1
theorem WX.setVal {g gm : Nat} {P : PV} {s : WS} {lv : Value} {W : World} {n : Nat} {t0 : TH} (h : WX g gm P (s.put n t0) lv W) (i : Nat) (hn : n < 3) (hi : i < 4) (v : VL) : WX g gm P (s.put n { t0 with vals := updF t0.vals i v }) lv (W.setCells g (4 + n * 29 + 17 + i * 3) (vlC v).toList) := by
  rw [setCells_VA g 79 _ _ _ W h.row]
  have h1 := h.rows (updF (s.put n t0).T n { t0 with vals := updF t0.vals i v }) (updW_T P gm (s.put n t0).T lv n hn { t0 with vals := updF t0.vals i v } (ovr (cellW P gm (s.put n t0).T lv) (4 + n * 29 + 17 + i * 3) (vlC v).toList) (fun j hj => ?_) fun k hk => ?_)
  · have h2 : ({ s.put n t0 with T := updF (s.put n t0).T n { t0 with vals := updF t0.vals i v } } : WS) = s.put n { t0 with vals := updF t0.vals i v } := by
      unfold WS.put
      simp only [updF_again]
    rw [h2] at h1
    exact h1
  · have hl : (vlC v).toList.length = 3 := rfl
    unfold ovr
    rw [hl]
    by_cases hr : 17 + i * 3 ≤ j ∧ j < 17 + i * 3 + 3
    · rw [if_pos (by omega)]
      have hv := cellT_val { t0 with vals := updF t0.vals i v } i
      simp only [updF_same] at hv
      rcases show j = 17 + i * 3 ∨ j = 17 + i * 3 + 1 ∨ j = 17 + i * 3 + 2 by omega with rfl | rfl | rfl
      · rw [hv.1, show 4 + n * 29 + (17 + i * 3) - (4 + n * 29 + 17 + i * 3) = 0 by omega]; rfl
      · rw [hv.2.1, show 4 + n * 29 + (17 + i * 3 + 1) - (4 + n * 29 + 17 + i * 3) = 1 by omega]; rfl
      · rw [hv.2.2, show 4 + n * 29 + (17 + i * 3 + 2) - (4 + n * 29 + 17 + i * 3) = 2 by omega]; rfl
    · rw [if_neg (by omega), cellW_T _ _ _ _ _ _ hn hj, T_put]
      exact (cellT_vals' t0 i j v hr).symm
  · unfold ovr
    rw [show (vlC v).toList.length = 3 from rfl, if_neg]
    intro hh
    exact hk (k - (4 + n * 29)) (by omega) (by omega)
/-- Only sealed pages, registers and the call count at a call's end. -/
theorem freeT_congr {t u : TH} (m : MS) (h1 : t.sld = u.sld) (h2 : t.args = u.args) : ∀ i, freeT t m i = freeT u m i
  | 0 => rfl
  | i + 1 => by
    unfold freeT
    rw [freeT_congr m h1 h2 i, h1, h2]
theorem end_put {n : Nat} {s : WS} {t : TH} (kind : Nat) (errno : Int) (v : VS) (h1 : t.sld = (s.T n).sld) (h2 : t.args = (s.T n).args) (h3 : t.call = (s.T n).call) : endS n kind errno v (s.put n t) = endS n kind errno v s := by
  unfold endS
  rw [T_put, h3, freeT_congr _ h1 h2]
  unfold WS.put
  simp only [updF_again]
end Go.Proofs.YtlgghomjlhnijaaGreat

/- snap. -/
namespace Go.Proofs.YtlgghomjlhnijaaGreat
open Go.RowKit Mm

/-- Behind pointersOf: the ward, the places, the kinds. -/
structure SX (g gm : Nat) (P : PV) (s : WS) (lv : Value) (oa : Option Addr) (l : List Nat) (ka : Array Value) (r6 : Nat) (W X : World) : Prop where
  ward : WX g gm P s lv X
  ints : IsInts W.heap.size oa l X
  box : X.heap[r6]? = some (.cells ka 106 (0, 0))
  bd : W.heap.size ≤ r6
  fr : Below W.heap.size W X
theorem SX.of {g gm : Nat} {P : PV} {s : WS} {lv : Value} {oa : Option Addr} {l : List Nat} (ka : Array Value) {W Y : World} (z : Array Value) (h : WX g gm P s lv W) (hi : IsInts W.heap.size oa l Y) (hb : Below W.heap.size W Y) : SX g gm P s lv oa l ka Y.heap.size W ((Y.alloc (.cells z 106)).setRow Y.heap.size ka) := by
  have h1 : Below Y.heap.size Y ((Y.alloc (.cells z 106)).setRow Y.heap.size ka) := below_setRow (box_below Y _) (Nat.le_refl _) _
  exact ⟨(h.on hb).on h1, hi.on h1, setRow_heap _ _ _ _ _ _ (heap_alloc_new Y _), hb.size, below_next hb h1⟩
theorem SX.on {g gm : Nat} {P : PV} {s : WS} {lv : Value} {oa : Option Addr} {l : List Nat} {ka : Array Value} {r6 : Nat} {W X Z : World} (h : SX g gm P s lv oa l ka r6 W X) (hb : Below X.heap.size X Z) : SX g gm P s lv oa l ka r6 W Z :=
  ⟨h.ward.on hb, h.ints.on hb, (hb.block _ (Array.getElem?_eq_some_iff.1 h.box).1).trans h.box, h.bd, below_next h.fr hb⟩
theorem lrow_cells {W : World} {r : Nat} (h : W.heap[r]? = some (.cells #[.string ⟨#[]⟩, .int .u32 0, .int .i64 0] 50 (0, 0))) :
    (W.cell? ⟨r, 0, none⟩ = some (.string ⟨#[]⟩) ∧ W.cell? ⟨r, 1, none⟩ = some (.int .u32 0) ∧ W.cell? ⟨r, 2, none⟩ = some (.int .i64 0)) ∧ W.frozen? ⟨r, 0, none⟩ = false ∧ W.frozen? ⟨r, 1, none⟩ = false ∧ W.frozen? ⟨r, 2, none⟩ = false :=
  ⟨⟨cell_of_row _ _ 0 _ _ _ h, cell_of_row _ _ 1 _ _ _ h, cell_of_row _ _ 2 _ _ _ h⟩, frozen_of_row _ _ 0 _ _ h, frozen_of_row _ _ 1 _ _ h, frozen_of_row _ _ 2 _ _ h⟩
theorem lset3 {W : World} {r : Nat} (h : W.heap[r]? = some (.cells #[.string ⟨#[]⟩, .int .u32 0, .int .i64 0] 50 (0, 0))) (v0 v1 v2 : Value) :
    ((W.setCell ⟨r, 0, none⟩ v0).setCell ⟨r, 1, none⟩ v1).setCell ⟨r, 2, none⟩ v2 = W.setRow r #[v0, v1, v2] := by
  rw [setCell_eq_setRow _ _ 0 _ _ _ _ h, setCell_eq_setRow _ _ 1 _ _ _ _ (setRow_heap _ _ _ _ _ _ h), setRow_again _ _ _ _ _ _ h, setCell_eq_setRow _ _ 2 _ _ _ _ (setRow_heap _ _ _ _ _ _ h), setRow_again _ _ _ _ _ _ h]
  rfl
theorem conv_one (W : World) (r x : Nat) (hx : x < 256) (hc : W.cell? ⟨r, 0, none⟩ = some (.int .u8 x)) : (convert 112 9 (.slice (some ⟨r, 0, none⟩) 1 1)).run Tryz.prog W = .ok (.string (bs [UInt8.ofNat x])) W :=
  run_convert_bytes_back (P := Tryz.prog) W 112 9 5 ⟨r, 0, none⟩ 1 [UInt8.ofNat x] Tryz.underlying112 Tryz.underlying5 Tryz.underlying9 fun j hj => by
    obtain rfl : j = 0 := by simpa using hj
    rw [show (⟨r, 0, none⟩ : Addr).add 0 = ⟨r, 0, none⟩ from rfl, hc]
    show _ = some (Value.int .u8 ((UInt8.ofNat x).toNat : Int))
    rw [UInt8.toNat_ofNat', Nat.mod_eq_of_lt (show x < 2 ^ 8 from hx)]
/-- The ward has turned. -/
theorem SX.fr' {g gm : Nat} {P : PV} {s s' : WS} {lv lv' : Value} {oa : Option Addr} {l : List Nat} {ka : Array Value} {r6 : Nat} {W X Z : World} (h : SX g gm P s lv oa l ka r6 W X) (h0 : WX g gm P s lv W) (hw : WX g gm P s' lv' Z) (hf : Fr g gm lv lv' X Z) : WX g gm P s' lv' Z ∧ IsInts W.heap.size oa l Z ∧ Z.heap[r6]? = some (.cells ka 106 (0, 0)) ∧ Fr g gm lv lv' W Z := by
  have hg := h0.glt
  have hm := h0.mlt
  have hl : ∀ k, W.heap.size ≤ k → lv.ownBlock ≠ some k := fun k hk e => by have := (h0.own.lt k e).2; omega
  have hb := h.bd
  exact ⟨hw, h.ints.heap (fun k h1 h2 => hf.block k h2 (by omega) (by omega) (hl k h1)) hf.size, (hf.block r6 (Array.getElem?_eq_some_iff.1 h.box).1 (by omega) (by omega) (hl r6 hb)).trans h.box, (Fr.of lv h.fr).trans hf⟩
end Go.Proofs.YtlgghomjlhnijaaGreat

/- snap. -/
namespace Go.Proofs.YtlgghomjlhnijaaGreat
open Go.RowKit Mm

set_option maxHeartbeats 2000000 in
set_option maxRecDepth 20000 in
theorem snap_any {g gm : Nat} {P : PV} {s : WS} {lv : Value} {W : World} (n : Nat) (hn : n < 3) (hi : Inv P.p s) (hph : (s.T n).phase = 2) (h : WX g gm P s lv W) (hlog : s.log.length ≤ 1000000) :
    Calls Tryz.prog 32 #[.pointer (some ⟨g, 0, none⟩), .int .i64 n] W (Goes g gm P (snapS n s) lv W) := by
  have j1 : (0 : Int) ≤ n := by omega
  have j2 : (n : Int) < 3 := by omega
  have ht := hi.thr n hn
  have hnr := ht.trc (by omega) (by omega)
  obtain ⟨hseen, hrd⟩ := ht.snap hph
  have hbyt := hi.mem.fine.bytes
  have HP := pts_some (s.T n).call hnr W
  unfold klV klC at HP
  have x1 := h.th n 1 hn (by omega)
  have x2 := h.th n 2 hn (by omega)
  have x3 := h.th n 3 hn (by omega)
  have x4 := h.th n 4 hn (by omega)
  have x5 := h.th n 5 hn (by omega)
  have x6 := h.th n 6 hn (by omega)
  rw [(cellT_call _).1] at x1
  rw [(cellT_call _).2.1] at x2
  rw [(cellT_call _).2.2.1] at x3
  rw [(cellT_call _).2.2.2.1] at x4
  rw [(cellT_call _).2.2.2.2.1] at x5
  rw [(cellT_call _).2.2.2.2.2] at x6
  obtain ⟨ka, hka⟩ : ∃ k, k = kindsA (s.T n).call.nr := ⟨_, rfl⟩
  have hka4 : ka.size = 4 := by rw [hka]; rfl
  have hka1 : ka.all (·.oneCell') = true := by rw [hka]; exact kindsA_one _
  have HKA := hide hka
  rw [← hka] at HP
  obtain ⟨pts, hpts⟩ : ∃ l, l = ptsOf (s.T n).call.nr := ⟨_, rfl⟩
  rw [← hpts] at HP hseen
  obtain ⟨L, hL⟩ : ∃ m, m = pts.length := ⟨_, rfl⟩
  rw [← hL] at HP hseen
  have HH := hide h
  have HT := hide ht
  have HI := hide hi
  have HRD := hide hrd
  clear h ht hi hrd hka
  go_enter Tryz.func32, Tryz.ntmps32
  go_wp2_with fail
  refine HP.mono ?_
  rintro e Y ⟨⟨oa, cap, rfl, hcap, hcap2, hints⟩, hY⟩
  have HS := hide (SX.of ka #[.int .i64 0, .int .i64 0, .int .i64 0, .int .i64 0] HH.out hints hY)
  obtain ⟨X, hX⟩ : ∃ X, X = (Y.alloc (.cells #[.int .i64 0, .int .i64 0, .int .i64 0, .int .i64 0] 106)).setRow Y.heap.size ka := ⟨_, rfl⟩
  rw [← hX] at HS
  obtain ⟨r6, hr6⟩ : ∃ r, r = Y.heap.size := ⟨_, rfl⟩
  obtain ⟨se, hse⟩ : ∃ x, x = (s.T n).seen := ⟨_, rfl⟩
  obtain ⟨at_, hat⟩ : ∃ x, x = ptAt (s.T n) := ⟨_, rfl⟩
  obtain ⟨ar, har⟩ : ∃ x, x = (s.T n).args at_ := ⟨_, rfl⟩
  obtain ⟨rd, hrdd⟩ : ∃ x, x = (s.T n).read := ⟨_, rfl⟩
  obtain ⟨q, hq⟩ : ∃ x, x = bs rd := ⟨_, rfl⟩
  rw [← hse] at hseen
  have hpt : pts[se]? = some at_ := by
    rw [hat, hpts, hse]
    unfold ptAt
    rw [List.getD_eq_getElem?_getD, List.getElem?_eq_getElem (by rw [← hse, ← hpts, ← hL]; exact hseen)]
    rfl
  have hmem := List.mem_of_getElem? hpt
  rw [hpts] at hmem
  obtain ⟨_, hat4, hkind⟩ := pts_of hmem
  obtain ⟨b, off, rfl, hbw, hbl, hel⟩ := HS.out.ints.lie (by omega)
  have y0 := hel se at_ hpt
  have y1 : X.cell? ⟨g, 4 + n * 29 + 15, none⟩ = some (.int .i64 se) := by rw [hse]; exact HS.out.ward.th n 15 hn (by omega)
  have y2 := HS.out.ward.ptr
  have y3 : X.cell? ⟨g, 4 + n * 29 + 7 + at_, none⟩ = some (.int .u64 ar) := by rw [Nat.add_assoc (4 + n * 29), HS.out.ward.th n (7 + at_) hn (by omega), cellT_arg _ _ hat4, har]
  have y4 : X.cell? ⟨g, 4 + n * 29 + 16, none⟩ = some (.string q) := by rw [hq, hrdd]; exact HS.out.ward.th n 16 hn (by omega)
  have i1 : (0 : Int) ≤ se := by omega
  have i2 : (se : Int) < L := by omega
  have i3 : (0 : Int) ≤ at_ := by omega
  have i4 : (at_ : Int) < 4 := by omega
  have HEQ := hide (And.intro hpts (And.intro hL (And.intro hse (And.intro hat (And.intro har (And.intro hrdd hq))))))
  clear HP x1 x2 x3 x4 x5 x6 hel hints hpts hL hse hat har hrdd hq hpt hmem
  go_wp2_with (refine wpList_store_row rfl 106 _ _ rfl Y.heap.size ka rfl rfl 106 _ (heap_alloc_new Y _) (by rw [hka4]; exact size_kinds) (by rw [hka4]; rfl) hka1 ?_; rw [← hX]; clear hX)
  have HM := hide HS.out.ward.mem
  have hwr : IntKind.wrap .u64 ((ar : Int) + IntKind.wrap .u64 (q.size : Int)) = ((addrI ar rd.length : Nat) : Int) := by
    rw [HEQ.out.2.2.2.2.2.2, bs_size]
    unfold addrI
    have hl : rd.length ≤ 40 := by
      have := HRD.out
      unfold readOk at this
      rw [← HEQ.out.2.2.2.2.2.1] at this
      by_cases h3 : kindAt (s.T n).call.nr (ptAt (s.T n)) = 3
      · have := this.1 h3; omega
      · exact (this.2 h3).1
    rw [IntKind.wrap_u64, IntKind.wrap_u64]
    omega
  obtain ⟨pk, hpk⟩ : ∃ x, x = peek s.mem (addrI ar rd.length) := ⟨_, rfl⟩
  have HB := fun m => byte_isM (W := X.drewN m) HM.out (addrI ar rd.length) (Nat.mod_lt _ (by decide))
  rw [← hpk] at HB
  obtain ⟨ai, hai⟩ : ∃ x : Nat, x = addrI ar rd.length := ⟨_, rfl⟩
  rw [← hai] at HB hwr hpk
  have HAI := hide (And.intro hai hpk)
  clear hai hpk
  have HSP := hide (show snapS n s = pk.elim (endS n 2 14 zeroVS s) (fun b => snapL n (rd ++ [UInt8.ofNat b]) s) by
    unfold snapS
    rw [HAI.out.2, HAI.out.1, HEQ.out.2.2.2.2.1, HEQ.out.2.2.2.1, HEQ.out.2.2.2.2.2.1]
    unfold addrI
    cases peek s.mem (((s.T n).args (ptAt (s.T n)) + (s.T n).read.length) % 18446744073709551616) <;> rfl)
  obtain ⟨r6, hr6⟩ : ∃ r, r = Y.heap.size := ⟨_, rfl⟩
  rw [← hr6] at HS
  rw [← hr6]
  clear hr6
  cases pk with
  | none => as_aux_lemma =>
    unfold byteV at HB
    simp only [Option.elim] at HB HSP
    go_quiet ((go_at_call 48; exact Calls.quiet_of_same (HB _)))
    obtain ⟨Z, hZ⟩ : ∃ Z, Z = X.drewN nq := ⟨_, rfl⟩
    have HZ := hide (HS.out.on (by rw [hZ]; exact below_drewN (Below.refl _ _) _) : SX g gm P s lv _ pts ka r6 W Z)
    rw [← hZ]
    clear hZ HB HS y0 y1 y2 y3 y4
    have HE := fail_any n hn 5 HZ.out.ward hlog
    go_wp2_with fail
    refine HE.mono ?_
    rintro e w' hG
    obtain ⟨rfl, h1⟩ := hG
    go_wp2
    go_end0
    rw [HSP.out]
    exact Goes.from HZ.out.fr ⟨rfl, h1⟩
  | some bt =>
    unfold byteV at HB
    simp only [Option.elim] at HB HSP
    go_quiet ((go_at_call 48; exact Calls.quiet_of_same (HB _)))
    obtain ⟨Z, hZ⟩ : ∃ Z, Z = X.drewN nq := ⟨_, rfl⟩
    have HZ := hide (HS.out.on (by rw [hZ]; exact below_drewN (Below.refl _ _) _) : SX g gm P s lv _ pts ka r6 W Z)
    rw [← hZ]
    have z4 : Z.drew.cell? ⟨g, 4 + n * 29 + 16, none⟩ = some (.string q) := by rw [hZ]; exact y4
    have f4 : Z.drew.frozen? ⟨g, 4 + n * 29 + 16, none⟩ = false := HZ.out.ward.fro _
    have z5 := keep_cell (box_below Z.drew (.cells #[.int .u8 (bt : Nat)] 5)) z4
    have f5 : (Z.alloc (.cells #[.int .u8 (bt : Nat)] 5)).drew.frozen? ⟨g, 4 + n * 29 + 16, none⟩ = false := (HZ.out.ward.on (box_below Z (.cells #[.int .u8 (bt : Nat)] 5))).fro _
    replace z5 : (Z.alloc (.cells #[.int .u8 (bt : Nat)] 5)).drew.cell? _ = _ := z5
    have hb256 : bt < 256 := by
      have h1 := HAI.out.2
      unfold peek at h1
      split at h1
      · rw [Option.some.inj h1]; exact hbyt _
      · cases h1
    have hcv := conv_one (Z.alloc (.cells #[.int .u8 (bt : Nat)] 5)).drew Z.heap.size bt hb256 (cell_of_row _ _ 0 _ _ _ (heap_alloc_new Z _))
    obtain ⟨cb, hcb⟩ : ∃ c, c = bs [UInt8.ofNat bt] := ⟨_, rfl⟩
    rw [← hcb] at hcv
    have hcat : ¬ 9223372036854775807 < q.size + cb.size := by
      rw [hcb, bs_size, HEQ.out.2.2.2.2.2.2, bs_size]
      simp only [List.length_singleton]
      have := HRD.out
      unfold readOk at this
      rw [← HEQ.out.2.2.2.2.2.1] at this
      by_cases h3 : kindAt (s.T n).call.nr (ptAt (s.T n)) = 3
      · have := this.1 h3; omega
      · have := (this.2 h3).1; omega
    have HQQ := hide (show bs (rd ++ [UInt8.ofNat bt]) = q ++ cb by rw [hcb, HEQ.out.2.2.2.2.2.2, bs_append])
    have HW6 := hide ((HZ.out.on (box_below Z (.cells #[.int .u8 (bt : Nat)] 5))).fr' HH.out (((HZ.out.ward.on (box_below Z (.cells #[.int .u8 (bt : Nat)] 5))).on (Below.refl _ _).drew).setT n 16 hn (by omega) (.string (q ++ cb)) { s.T n with read := rd ++ [UInt8.ofNat bt] } (fun k hk => by rw [cellT_read' _ _ k, HQQ.out])) ((Fr.of lv (Below.refl _ _).drew).trans (Fr.set lv _ _ _)))
    have HCB := hide hcb
    clear hcb
    clear hZ HB HS y0 y1 y2 y3 y4 HM
    go_wp2_with fail
    go_cut [8] (fun S wc => S = .int .u8 bt ∧ Hid (WX g gm P (s.put n { s.T n with read := rd ++ [UInt8.ofNat bt] }) lv wc ∧ IsInts W.heap.size (some ⟨b, off, none⟩) pts wc ∧ wc.heap[r6]? = some (.cells ka 106 (0, 0)) ∧ Fr g gm lv lv W wc))
    case first => as_aux_lemma =>
      refine wp_region_any (by kernel_rfl) ?_
      change wpAny _ _ _ _ _ _ _ (World.drew _)
      refine Gl.wpAny_takeOf 0 (some 58) (Value.pointer (some ⟨g, 4 + n * 29, none⟩)) rfl rfl (by kernel_rfl) (by kernel_rfl) (by kernel_rfl) (fun _ _ _ h => h) (Or.inl ⟨by rfl, ?_⟩) ?_
      · intro wx
        go_simp
      try simp only [Act.put, List.setIfInBounds_toArray, List.set_cons_zero, List.set_cons_succ]
      refine Gl.wpAny_takeOf 1 (some 59) (Value.pointer (some ⟨g, 4 + n * 29, none⟩)) rfl rfl (by kernel_rfl) (by kernel_rfl) (by kernel_rfl) (fun _ _ _ h => h) (Or.inl ⟨by rfl, ?_⟩) ?_
      · intro wx
        go_simp
      try simp only [Act.put, List.setIfInBounds_toArray, List.set_cons_zero, List.set_cons_succ]
      refine Gl.wpAny_takeOf 2 (some 60) (Value.pointer (some ⟨g, 4 + n * 29 + 16, none⟩)) rfl rfl (by kernel_rfl) (by kernel_rfl) (by kernel_rfl) (fun _ _ _ h => h) (Or.inl ⟨by rfl, ?_⟩) ?_
      · intro wx
        go_simp
      try simp only [Act.put, List.setIfInBounds_toArray, List.set_cons_zero, List.set_cons_succ]
      refine Gl.wpAny_takeOf 4 (some 62) (.int .u8 bt) rfl rfl (by kernel_rfl) (by kernel_rfl) (by kernel_rfl) (fun _ _ _ h => h) (Or.inl ⟨by rfl, ?_⟩) ?_
      · intro wx
        go_simp
      try simp only [Act.put, List.setIfInBounds_toArray, List.set_cons_zero, List.set_cons_succ]
      refine wpAny_two (i := 3) (j := 5) (by kernel_rfl) rfl rfl rfl rfl (fun K hK => ?_) (fun K hK => ?_)
      · go_simp
        refine hK _ _ ?_
        clear hK K
        try simp only [Act.put, List.setIfInBounds_toArray, List.set_cons_zero, List.set_cons_succ]
        refine Gl.wpAny_only (i := 5) (by kernel_rfl) rfl rfl (fun K hK => ?_)
        go_simp
        refine hK _ _ ?_
        clear hK K
        try simp only [Act.put, List.setIfInBounds_toArray, List.set_cons_zero, List.set_cons_succ]
        refine Gl.wpAny_only (i := 6) (by kernel_rfl) rfl rfl (fun K hK => ?_)
        go_simp
        refine hK _ _ ?_
        clear hK K
        try simp only [Act.put, List.setIfInBounds_toArray, List.set_cons_zero, List.set_cons_succ]
        refine Gl.wpAny_only (i := 7) (by kernel_rfl) rfl rfl (fun K hK => ?_)
        go_simp
        refine hK _ _ ?_
        clear hK K
        try simp only [Act.put, List.setIfInBounds_toArray, List.set_cons_zero, List.set_cons_succ]
        refine Gl.wpAny_takeOf 8 (some 66) (Value.pointer (some ⟨g, 4 + n * 29, none⟩)) rfl rfl (by kernel_rfl) (by kernel_rfl) (by kernel_rfl) (fun _ _ _ h => h) (Or.inl ⟨by rfl, ?_⟩) ?_
        · intro wx
          go_simp
        try simp only [Act.put, List.setIfInBounds_toArray, List.set_cons_zero, List.set_cons_succ]
        refine Gl.wpAny_takeOf 9 (some 67) (Value.pointer (some ⟨g, 4 + n * 29 + 16, none⟩)) rfl rfl (by kernel_rfl) (by kernel_rfl) (by kernel_rfl) (fun _ _ _ h => h) (Or.inl ⟨by rfl, ?_⟩) ?_
        · intro wx
          go_simp
        try simp only [Act.put, List.setIfInBounds_toArray, List.set_cons_zero, List.set_cons_succ]
        refine Gl.wpAny_only (i := 10) (by kernel_rfl) rfl rfl (fun K hK => ?_)
        go_simp
        refine hK _ _ ?_
        clear hK K
        try simp only [Act.put, List.setIfInBounds_toArray, List.set_cons_zero, List.set_cons_succ]
        refine wpAny_done (by kernel_rfl) ?_ _
        go_wp2_with fail
        go_meet
        case rel => exact ⟨rfl, HW6⟩
      · go_simp
        refine hK _ _ ?_
        clear hK K
        try simp only [Act.put, List.setIfInBounds_toArray, List.set_cons_zero, List.set_cons_succ]
        refine wpAny_two (i := 3) (j := 6) (by kernel_rfl) rfl rfl rfl rfl (fun K hK => ?_) (fun K hK => ?_)
        · go_simp
          refine hK _ _ ?_
          clear hK K
          try simp only [Act.put, List.setIfInBounds_toArray, List.set_cons_zero, List.set_cons_succ]
          refine Gl.wpAny_only (i := 6) (by kernel_rfl) rfl rfl (fun K hK => ?_)
          go_simp
          refine hK _ _ ?_
          clear hK K
          try simp only [Act.put, List.setIfInBounds_toArray, List.set_cons_zero, List.set_cons_succ]
          refine Gl.wpAny_only (i := 7) (by kernel_rfl) rfl rfl (fun K hK => ?_)
          go_simp
          refine hK _ _ ?_
          clear hK K
          try simp only [Act.put, List.setIfInBounds_toArray, List.set_cons_zero, List.set_cons_succ]
          refine Gl.wpAny_takeOf 8 (some 66) (Value.pointer (some ⟨g, 4 + n * 29, none⟩)) rfl rfl (by kernel_rfl) (by kernel_rfl) (by kernel_rfl) (fun _ _ _ h => h) (Or.inl ⟨by rfl, ?_⟩) ?_
          · intro wx
            go_simp
          try simp only [Act.put, List.setIfInBounds_toArray, List.set_cons_zero, List.set_cons_succ]
          refine Gl.wpAny_takeOf 9 (some 67) (Value.pointer (some ⟨g, 4 + n * 29 + 16, none⟩)) rfl rfl (by kernel_rfl) (by kernel_rfl) (by kernel_rfl) (fun _ _ _ h => h) (Or.inl ⟨by rfl, ?_⟩) ?_
          · intro wx
            go_simp
          try simp only [Act.put, List.setIfInBounds_toArray, List.set_cons_zero, List.set_cons_succ]
          refine Gl.wpAny_only (i := 10) (by kernel_rfl) rfl rfl (fun K hK => ?_)
          go_simp
          refine hK _ _ ?_
          clear hK K
          try simp only [Act.put, List.setIfInBounds_toArray, List.set_cons_zero, List.set_cons_succ]
          refine wpAny_done (by kernel_rfl) ?_ _
          go_wp2_with fail
          go_meet
          case rel => exact ⟨rfl, HW6⟩
        · go_simp
          refine hK _ _ ?_
          clear hK K
          try simp only [Act.put, List.setIfInBounds_toArray, List.set_cons_zero, List.set_cons_succ]
          refine Gl.wpAny_only (i := 3) (by kernel_rfl) rfl rfl (fun K hK => ?_)
          go_simp
          refine hK _ _ ?_
          clear hK K
          try simp only [Act.put, List.setIfInBounds_toArray, List.set_cons_zero, List.set_cons_succ]
          refine Gl.wpAny_only (i := 7) (by kernel_rfl) rfl rfl (fun K hK => ?_)
          go_simp
          refine hK _ _ ?_
          clear hK K
          try simp only [Act.put, List.setIfInBounds_toArray, List.set_cons_zero, List.set_cons_succ]
          refine Gl.wpAny_takeOf 8 (some 66) (Value.pointer (some ⟨g, 4 + n * 29, none⟩)) rfl rfl (by kernel_rfl) (by kernel_rfl) (by kernel_rfl) (fun _ _ _ h => h) (Or.inl ⟨by rfl, ?_⟩) ?_
          · intro wx
            go_simp
          try simp only [Act.put, List.setIfInBounds_toArray, List.set_cons_zero, List.set_cons_succ]
          refine Gl.wpAny_takeOf 9 (some 67) (Value.pointer (some ⟨g, 4 + n * 29 + 16, none⟩)) rfl rfl (by kernel_rfl) (by kernel_rfl) (by kernel_rfl) (fun _ _ _ h => h) (Or.inl ⟨by rfl, ?_⟩) ?_
          · intro wx
            go_simp
          try simp only [Act.put, List.setIfInBounds_toArray, List.set_cons_zero, List.set_cons_succ]
          refine Gl.wpAny_only (i := 10) (by kernel_rfl) rfl rfl (fun K hK => ?_)
          go_simp
          refine hK _ _ ?_
          clear hK K
          try simp only [Act.put, List.setIfInBounds_toArray, List.set_cons_zero, List.set_cons_succ]
          refine wpAny_done (by kernel_rfl) ?_ _
          go_wp2_with fail
          go_meet
          case rel => exact ⟨rfl, HW6⟩

    case rest => as_aux_lemma =>
      obtain ⟨rfl, HC⟩ := hcut
      clear z4 z5 f4 f5 hcv hcat HW6 HZ
      obtain ⟨l1, hl1⟩ : ∃ l, l = rd ++ [UInt8.ofNat bt] := ⟨_, rfl⟩
      rw [← hl1] at HC HSP
      have hlen : l1.length ≤ 9000 := by
        rw [hl1, List.length_append, List.length_singleton]
        have := HRD.out
        unfold readOk at this
        rw [← HEQ.out.2.2.2.2.2.1] at this
        by_cases h3 : kindAt (s.T n).call.nr (ptAt (s.T n)) = 3
        · have := this.1 h3; omega
        · have := (this.2 h3).1; omega
      obtain ⟨k, hk⟩ : ∃ k, k = kindAt (s.T n).call.nr at_ := ⟨_, rfl⟩
      rw [← hk] at hkind
      have y0 : wc.cell? ⟨r6, at_, none⟩ = some (.int .i64 (k : Nat)) := by rw [cell_of_row _ _ _ _ _ _ HC.out.2.2.1, HKA.out, hk]; exact kindsA_at _ _ hat4
      obtain ⟨q1, hq1⟩ : ∃ q, q = bs l1 := ⟨_, rfl⟩
      have y1 : wc.cell? ⟨g, 4 + n * 29 + 16, none⟩ = some (.string q1) := by rw [HC.out.1.th n 16 hn (by omega), T_put, hq1]; rfl
      have HWH := fun X => isWhole_any k l1 hlen X
      have HVO := fun X => valueOf_any k hkind l1 hlen X
      rw [← hq1] at HWH HVO
      have HSL := hide (show snapS n s = if wholeB k l1 = true then (match valOf k l1 with
        | none => endS n 2 (valErr k : Nat) zeroVS s
        | some v => s.put n { s.T n with vals := updF (s.T n).vals at_ v, read := [], seen := se + 1, phase := if se + 1 = L then 3 else 2 }) else s.put n { s.T n with read := l1 } by
          rw [HSP.out]
          unfold snapL
          simp only
          rw [← HEQ.out.2.2.2.1, ← hk, ← HEQ.out.2.2.1, ← HEQ.out.1, ← HEQ.out.2.1]
          rfl)
      obtain ⟨wb, hwb⟩ : ∃ b, b = wholeB k l1 := ⟨_, rfl⟩
      rw [← hwb] at HSL
      simp only [← hwb] at HWH
      have HK := hide hk
      have HQ1 := hide hq1
      clear hl1 hq1 hk hwb HSP hlen
      cases wb with
      | false => as_aux_lemma =>
        rw [if_neg Bool.false_ne_true] at HSL
        go_wp2_with fail
        go_quiet ((go_at_call 50; exact Calls.quiet_of_same (HWH _)))
        go_wp2
        go_end0
        rw [HSL.out]
        exact ⟨rfl, lv, HC.out.1.on (below_drewN (Below.refl _ _) _), HC.out.2.2.2.trans (Fr.of lv (below_drewN (Below.refl _ _) _))⟩
      | true =>
        rw [if_pos rfl] at HSL
        go_wp2_with fail
        go_quiet ((go_at_call 50; exact Calls.quiet_of_same (HWH _)))
        obtain ⟨Z, hZ⟩ : ∃ Z, Z = wc.drewN nq := ⟨_, rfl⟩
        have HD := hide (show Below wc.heap.size wc Z by rw [hZ]; exact below_drewN (Below.refl _ _) _)
        replace y0 := keep_cell HD.out y0
        replace y1 := keep_cell HD.out y1
        rw [← hZ]
        obtain ⟨⟨⟨path, ip, port⟩, f⟩, hvr⟩ : ∃ v, v = valR k l1 := ⟨_, rfl⟩
        simp only [← hvr] at HVO
        unfold vlC at HVO
        simp only at HVO
        obtain ⟨er, her⟩ : ∃ e, e = errV f := ⟨_, rfl⟩
        simp only [← her] at HVO
        have HER := hide her
        have HVR := hide hvr
        have hgZ : g ≠ Z.heap.size := Nat.ne_of_lt (HC.out.1.on HD.out).glt
        have hrZ : r6 ≠ Z.heap.size := Nat.ne_of_lt (Nat.lt_of_lt_of_le (Array.getElem?_eq_some_iff.1 HC.out.2.2.1).1 HD.out.size)
        have zb : (Z.alloc (.cells #[.string ⟨#[]⟩, .int .u32 0, .int .i64 0] 50)).drew.heap[Z.heap.size]? = some (.cells #[.string ⟨#[]⟩, .int .u32 0, .int .i64 0] 50 (0, 0)) := heap_alloc_new Z _
        have x0 := keep_cell (box_below Z (.cells #[.string ⟨#[]⟩, .int .u32 0, .int .i64 0] 50)) y0
        have x1 := keep_cell (box_below Z (.cells #[.string ⟨#[]⟩, .int .u32 0, .int .i64 0] 50)) y1
        replace y0 : Z.drew.cell? _ = _ := y0
        replace y1 : Z.drew.cell? _ = _ := y1
        replace x0 : (Z.alloc (.cells #[.string ⟨#[]⟩, .int .u32 0, .int .i64 0] 50)).drew.cell? _ = _ := x0
        replace x1 : (Z.alloc (.cells #[.string ⟨#[]⟩, .int .u32 0, .int .i64 0] 50)).drew.cell? _ = _ := x1
        clear hZ hvr her HWH
        go_wp2_with fail
        go_cut [9, 10] (fun E S w2 => E = er ∧ ∃ r10 : Nat, S = .pointer (some ⟨r10, 0, none⟩) ∧ Hid (Below Z.heap.size Z w2) ∧ Hid (w2.heap[r10]? = some (.cells #[.string path, .int .u32 ip, .int .i64 port] 50 (0, 0))))
        case first => as_aux_lemma =>
          go_region_held3 (fun w' => w'.cell? ⟨r6, at_, none⟩ = some (.int .i64 (k : Nat)) ∧ w'.cell? ⟨g, 4 + n * 29 + 16, none⟩ = some (.string q1))
            (first | (with_reducible exact ⟨y0, y1⟩) | (with_reducible exact ⟨x0, x1⟩) | (with_reducible exact ⟨r0, r1⟩) | (with_reducible exact ⟨keep_cell (box_below Z.drew _) y0, keep_cell (box_below Z.drew _) y1⟩) | (with_reducible exact ⟨keep_cell (box_below Y _) r0, keep_cell (box_below Y _) r1⟩) | (with_reducible exact ⟨keepv hrZ r0, keepv hgZ r1⟩) | go_keep)
            ((first
              | (go_at_call 51; with_reducible refine (HVO Z.drew).mono ?_; rintro e Y ⟨rfl, hY⟩; have HB := hide (below_next (Below.refl _ Z).drew hY); have r0 := keep_cell hY y0; have r1 := keep_cell hY y1; clear hY)
              | (go_at_call 51; refine (HVO (Z.alloc (.cells #[.string ⟨#[]⟩, .int .u32 0, .int .i64 0] 50)).drew).mono ?_; rintro e Y ⟨rfl, hY⟩; have HB := hide (below_next (box_below Z (.cells #[.string ⟨#[]⟩, .int .u32 0, .int .i64 0] 50)).drew hY); have r0 := keep_cell hY x0; have r1 := keep_cell hY x1; have uh := (hY.block Z.heap.size (by show _ < (Z.alloc _).heap.size; rw [World.size_alloc]; exact Nat.lt_succ_self _)).trans zb; obtain ⟨⟨p0, p1, p2⟩, g0, g1, g2⟩ := lrow_cells uh; clear hY)))
          all_goals
            go_wp2_with fail
            go_meet
            case rel => first
              | with_reducible exact ⟨rfl, Y.heap.size, rfl, hide (below_next HB.out (box_below _ _)), hide (heap_alloc_new _ _)⟩
              | exact ⟨rfl, Z.heap.size, rfl, hide (by rw [lset3 uh]; exact below_setRow HB.out (Nat.le_refl _) _), hide (by rw [lset3 uh]; exact setRow_heap _ _ _ _ _ _ uh)⟩
        case rest => as_aux_lemma =>
          obtain ⟨rfl, r10, rfl, HB2, HR2⟩ := hcut
          have HX2 := hide ((HC.out.1.on HD.out).on HB2.out)
          have HF2 := hide ((HC.out.2.2.2.trans (Fr.of lv HD.out)).trans (Fr.of lv HB2.out))
          clear y0 y1 x0 x1 zb HVO
          have HVV := HVR.out
          unfold valR at HVV
          cases hvo : valOf k l1 with
          | none => as_aux_lemma =>
            rw [hvo] at HVV HSL
            simp only [Prod.mk.injEq] at HVV HSL
            have hf0 : f ≠ 0 := by rw [HVV.2]; split <;> omega
            have hfe : errnoN f = valErr k := by
              rw [HVV.2]
              unfold valErr
              by_cases h3 : k = 3
              · rw [if_pos h3, if_pos h3]; rfl
              · rw [if_neg h3, if_neg h3]; rfl
            have HE := fail_any n hn f HX2.out hlog
            rw [hfe, end_put (t := { s.T n with read := l1 }) 2 _ zeroVS rfl rfl rfl] at HE
            have hu := HER.out
            rw [errV_pos hf0] at hu
            subst hu
            clear HVV hvo
            go_wp2_with fail
            refine HE.mono ?_
            rintro e w' hG
            obtain ⟨rfl, lv', h1, h2⟩ := hG
            go_wp2
            go_end0
            rw [HSL.out]
            exact ⟨rfl, lv', h1, HF2.out.trans h2⟩
          | some vv => as_aux_lemma =>
            rw [hvo] at HVV HSL
            simp only [Prod.mk.injEq] at HVV HSL
            obtain ⟨hvv, hf0⟩ := HVV
            have hu := HER.out
            rw [hf0, errV_zero] at hu
            subst hu
            have HXD := hide (HX2.out.on (Below.refl _ _).drew)
            have r0 : wc.drew.cell? ⟨r10, 0, none⟩ = some (.string path) := cell_of_row _ _ 0 _ _ _ HR2.out
            have r1 : wc.drew.cell? ⟨r10, 1, none⟩ = some (.int .u32 ip) := cell_of_row _ _ 1 _ _ _ HR2.out
            have r2 : wc.drew.cell? ⟨r10, 2, none⟩ = some (.int .i64 port) := cell_of_row _ _ 2 _ _ _ HR2.out
            obtain ⟨V, hV⟩ : ∃ V, V = wc.drew.setCells g (4 + n * 29 + 17 + at_ * 3) (#[.string path, .int .u32 ip, .int .i64 port] : Array Value).toList := ⟨_, rfl⟩
            have HV := hide (show WX g gm P (s.put n { s.T n with read := l1, vals := updF (s.T n).vals at_ ⟨path, ip, port⟩ }) lv V by rw [hV]; exact HXD.out.setVal at_ hn hat4 ⟨path, ip, port⟩)
            have HFV := hide (show Fr g gm lv lv W V by rw [hV]; exact (HF2.out.trans (Fr.of lv (Below.refl _ _).drew)).trans (Fr.cells lv _ _ _))
            clear hvo hf0
            go_wp2_with fail
            refine wp_region_any (by kernel_rfl) ?_
            change wpAny _ _ _ _ _ _ _ (World.drew _)
            refine Gl.wpAny_takeOf 0 (some 94) (Value.pointer (some ⟨g, 4 + n * 29, none⟩)) rfl rfl (by kernel_rfl) (by kernel_rfl) (by kernel_rfl) (fun _ _ _ h => h) (Or.inl ⟨by rfl, ?_⟩) ?_
            · intro wx
              go_simp
            try simp only [Act.put, List.setIfInBounds_toArray, List.set_cons_zero, List.set_cons_succ]
            refine Gl.wpAny_takeOf 1 (some 95) (.int .i64 (at_ : Nat)) rfl rfl (by kernel_rfl) (by kernel_rfl) (by kernel_rfl) (fun _ _ _ h => h) (Or.inl ⟨by rfl, ?_⟩) ?_
            · intro wx
              go_simp
            try simp only [Act.put, List.setIfInBounds_toArray, List.set_cons_zero, List.set_cons_succ]
            refine Gl.wpAny_takeOf 3 (some 97) (Value.pointer (some ⟨g, 4 + n * 29, none⟩)) rfl rfl (by kernel_rfl) (by kernel_rfl) (by kernel_rfl) (fun _ _ _ h => h) (Or.inl ⟨by rfl, ?_⟩) ?_
            · intro wx
              go_simp
            try simp only [Act.put, List.setIfInBounds_toArray, List.set_cons_zero, List.set_cons_succ]
            refine Gl.wpAny_takeOf 4 (some 98) (Value.pointer (some ⟨g, 4 + n * 29 + 17, none⟩)) rfl rfl (by kernel_rfl) (by kernel_rfl) (by kernel_rfl) (fun _ _ _ h => h) (Or.inl ⟨by rfl, ?_⟩) ?_
            · intro wx
              go_simp
            try simp only [Act.put, List.setIfInBounds_toArray, List.set_cons_zero, List.set_cons_succ]
            refine Gl.wpAny_only (i := 2) (by kernel_rfl) rfl rfl (fun K hK => ?_)
            go_simp
            refine hK _ _ ?_
            clear hK K
            try simp only [Act.put, List.setIfInBounds_toArray, List.set_cons_zero, List.set_cons_succ]
            refine Gl.wpAny_only (i := 5) (by kernel_rfl) rfl rfl (fun K hK => ?_)
            go_simp
            refine hK _ _ ?_
            clear hK K
            try simp only [Act.put, List.setIfInBounds_toArray, List.set_cons_zero, List.set_cons_succ]
            refine Gl.wpAny_only (i := 6) (by kernel_rfl) rfl rfl (fun K hK => ?_)
            refine wp_store_mid (P := Tryz.prog) 50 _ _ rfl g (4 + n * 29 + 17 + at_ * 3) #[.string path, .int .u32 ip, .int .i64 port] rfl rfl (by intro j hj; exact ⟨by rw [HXD.out.cell _ (by have h3 : j < 3 := hj; omega)]; rfl, HXD.out.fro _⟩) size_vl (by simp [Value.oneCell']) ?_
            refine hK _ _ ?_
            clear hK K
            try simp only [Act.put]
            refine wpAny_done (by kernel_rfl) ?_ _

            rw [← hV]
            clear hV r0 r1 r2
            have v16 : V.cell? ⟨g, 4 + n * 29 + 16, none⟩ = some (.string q1) := by rw [HV.out.th n 16 hn (by omega), T_put, HQ1.out]; rfl
            have f16 : V.frozen? ⟨g, 4 + n * 29 + 16, none⟩ = false := HV.out.fro _
            have HV1 := hide (HV.out.setT' 16 hn (by omega) (.string ⟨#[]⟩) { s.T n with read := [], vals := updF (s.T n).vals at_ ⟨path, ip, port⟩ } (fun k => by rw [show ({ s.T n with read := [], vals := updF (s.T n).vals at_ ⟨path, ip, port⟩ } : TH) = { ({ s.T n with read := l1, vals := updF (s.T n).vals at_ ⟨path, ip, port⟩ } : TH) with read := [] } from rfl, cellT_read']; rfl))
            have v15 : (V.setCell ⟨g, 4 + n * 29 + 16, none⟩ (.string ⟨#[]⟩)).cell? ⟨g, 4 + n * 29 + 15, none⟩ = some (.int .i64 (se : Nat)) := by rw [HV1.out.th n 15 hn (by omega), T_put, HEQ.out.2.2.1]; rfl
            have f15 : (V.setCell ⟨g, 4 + n * 29 + 16, none⟩ (.string ⟨#[]⟩)).frozen? ⟨g, 4 + n * 29 + 15, none⟩ = false := HV1.out.fro _
            have hL2 : L ≤ 2 := by rw [HEQ.out.2.1, HEQ.out.1]; exact pts_few _
            have HV2 := hide (HV1.out.setT' 15 hn (by omega) (.int .i64 ((se : Int) + 1)) { s.T n with read := [], seen := se + 1, vals := updF (s.T n).vals at_ ⟨path, ip, port⟩ } (fun k => by rw [show ({ s.T n with read := [], seen := se + 1, vals := updF (s.T n).vals at_ ⟨path, ip, port⟩ } : TH) = { ({ s.T n with read := [], vals := updF (s.T n).vals at_ ⟨path, ip, port⟩ } : TH) with seen := se + 1 } from rfl, cellT_seen']; rfl))
            have HF2' := hide (HFV.out.trans ((Fr.set (g := g) (gm := gm) lv V (4 + n * 29 + 16) (.string ⟨#[]⟩)).trans (Fr.set lv _ (4 + n * 29 + 15) (.int .i64 ((se : Int) + 1)))))
            have v0 : ((V.setCell ⟨g, 4 + n * 29 + 16, none⟩ (.string ⟨#[]⟩)).setCell ⟨g, 4 + n * 29 + 15, none⟩ (.int .i64 ((se : Int) + 1))).cell? ⟨g, 4 + n * 29, none⟩ = some (.int .i64 2) := by
              have h0 := HV2.out.phase n hn
              rw [T_put] at h0
              simp only [hph] at h0
              exact h0
            have f0 : ((V.setCell ⟨g, 4 + n * 29 + 16, none⟩ (.string ⟨#[]⟩)).setCell ⟨g, 4 + n * 29 + 15, none⟩ (.int .i64 ((se : Int) + 1))).frozen? ⟨g, 4 + n * 29, none⟩ = false := HV2.out.fro _
            clear HI HRD HT HH HAI HCB HQQ HK HQ1 HVR HER HC HD HB2 HR2 HX2 HF2 HXD HV HFV HV1 hka4 hka1 HKA hbyt hkind
            by_cases hsl : se + 1 = L
            · rw [if_pos hsl] at HSL
              have HV3 := hide (HV2.out.setT' 0 hn (by omega) (.int .i64 3) { s.T n with read := [], seen := se + 1, phase := 3, vals := updF (s.T n).vals at_ ⟨path, ip, port⟩ } (fun k => by rw [show ({ s.T n with read := [], seen := se + 1, phase := 3, vals := updF (s.T n).vals at_ ⟨path, ip, port⟩ } : TH) = { ({ s.T n with read := [], seen := se + 1, vals := updF (s.T n).vals at_ ⟨path, ip, port⟩ } : TH) with phase := 3 } from rfl, cellT_phase']; rfl))
              have bq : (((se : Int) + 1) == (L : Int)) = true := by simp; omega
              clear hsl
              go_wp2_with fail
              go_end0
              rw [HSL.out, ← hvv]
              exact ⟨rfl, lv, HV3.out, HF2'.out.trans (Fr.set lv _ _ _)⟩
            · rw [if_neg hsl] at HSL
              have bq : (((se : Int) + 1) == (L : Int)) = false := by simp; omega
              clear hsl
              go_wp2_with fail
              go_end0
              rw [HSL.out, ← hvv]
              refine ⟨rfl, lv, ?_, HF2'.out⟩
              have h9 := HV2.out
              rw [show ({ s.T n with read := [], seen := se + 1, vals := updF (s.T n).vals at_ ⟨path, ip, port⟩ } : TH) = { s.T n with vals := updF (s.T n).vals at_ ⟨path, ip, port⟩, read := [], seen := se + 1, phase := 2 } by simp only [hph]] at h9
              exact h9
end Go.Proofs.YtlgghomjlhnijaaGreat

/- sealValue. -/
namespace Go.Proofs.YtlgghomjlhnijaaGreat
open Go.RowKit Mm

theorem sealValue_ok {g gm : Nat} {P : PV} {s : WS} {lv : Value} {W : World} (k : Nat) (v : VL) (hv : ValOk k v) (hl : (bytesV k v).length ≤ 64) {q : Nat} (hq : freeQ s.mem = some q) (h : WX g gm P s lv W) :
    Calls Tryz.prog 52 #[.pointer (some ⟨g, 0, none⟩), .int .i64 k, .agg (vlC v)] W fun e w' => e = .returned (.tuple #[.int .u64 ((q * 64 : Nat) : Int), .nilIface]) ∧ WX g gm P { s with mem := sealM s.mem q (bytesV k v) } lv w' ∧ Fr g gm lv lv W w' := by
  have HB := bytesOf_any k v hv (W.alloc (.cells (vlC v) 50))
  have HX := hide (h.on (box_below W (.cells (vlC v) 50)))
  have HS := fun X (hX : WX g gm P s lv X) => mseal_ok hX.mem hq (bs (bytesV k v)) (by rw [bs_size]; exact hl)
  rw [show (bs (bytesV k v)).data.toList = bytesV k v from rfl] at HS
  obtain ⟨B, hB⟩ : ∃ B, B = bytesV k v := ⟨_, rfl⟩
  rw [← hB] at HB HS
  rw [← hB]
  obtain ⟨path, ip, port⟩ := v
  unfold vlC at HB HX ⊢
  obtain ⟨V, hV, hVb, hVs, hVc⟩ := one_box W #[.string path, .int .u32 ip, .int .i64 port] 50
  have c0 := hVc 0
  have c1 := hVc 1
  have c2 := hVc 2
  simp only [List.getElem?_toArray, List.getElem?_cons_zero, List.getElem?_cons_succ] at c0 c1 c2
  simp only at hV HB HX ⊢
  obtain ⟨z, hz⟩ : ∃ z : Int, z = ((q * 64 : Nat) : Int) := ⟨_, rfl⟩
  rw [← hz] at HS
  rw [← hz]
  rw [← hV] at HB HX
  clear h hB hv hl hVc hVs hq hz
  go_enter Tryz.func52, Tryz.ntmps52
  go_wp2_with fail
  rw [← hV]
  refine HB.mono ?_
  rintro e w1 ⟨rfl, hb1⟩
  have HX1 := hide (HX.out.on hb1)
  have HF1 := hide ((Fr.of (g := g) (gm := gm) lv hVb).trans (Fr.of lv hb1))
  have cp := HX1.out.ptr
  clear hb1 HX HB c0 c1 c2
  go_wp2_with fail
  refine (HS w1 HX1.out).mono ?_
  rintro e w2 ⟨rfl, hm, hg⟩
  go_wp2
  go_ret2
  exact ⟨rfl, HX1.out.memo hm hg, HF1.out.trans (Fr.grown lv hg (.inr rfl))⟩
theorem sealValue_full {g gm : Nat} {P : PV} {s : WS} {lv : Value} {W : World} (k : Nat) (v : VL) (hv : ValOk k v) (hl : (bytesV k v).length ≤ 64) (hq : freeQ s.mem = none) (h : WX g gm P s lv W) :
    Calls Tryz.prog 52 #[.pointer (some ⟨g, 0, none⟩), .int .i64 k, .agg (vlC v)] W fun e w' => e = .returned (.tuple #[.int .u64 0, .iface 93 (.int .i64 9)]) ∧ WX g gm P s lv w' ∧ Fr g gm lv lv W w' := by
  have HB := bytesOf_any k v hv (W.alloc (.cells (vlC v) 50))
  have HX := hide (h.on (box_below W (.cells (vlC v) 50)))
  have HS := fun X (hX : WX g gm P s lv X) => mseal_full hX.mem hq (bs (bytesV k v)) (by rw [bs_size]; exact hl)
  obtain ⟨B, hB⟩ : ∃ B, B = bytesV k v := ⟨_, rfl⟩
  rw [← hB] at HB HS
  obtain ⟨path, ip, port⟩ := v
  unfold vlC at HB HX ⊢
  obtain ⟨V, hV, hVb, hVs, hVc⟩ := one_box W #[.string path, .int .u32 ip, .int .i64 port] 50
  have c0 := hVc 0
  have c1 := hVc 1
  have c2 := hVc 2
  simp only [List.getElem?_toArray, List.getElem?_cons_zero, List.getElem?_cons_succ] at c0 c1 c2
  simp only at hV HB HX ⊢
  rw [← hV] at HB HX
  clear h hB hv hl hVc hVs hq
  go_enter Tryz.func52, Tryz.ntmps52
  go_wp2_with fail
  rw [← hV]
  refine HB.mono ?_
  rintro e w1 ⟨rfl, hb1⟩
  have HX1 := hide (HX.out.on hb1)
  have HF1 := hide ((Fr.of (g := g) (gm := gm) lv hVb).trans (Fr.of lv hb1))
  have cp := HX1.out.ptr
  clear hb1 HX HB c0 c1 c2
  go_wp2_with fail
  refine (HS w1 HX1.out).mono ?_
  rintro e w2 ⟨rfl, hm, hg⟩
  go_wp2
  go_ret2
  exact ⟨rfl, HX1.out.memo hm hg, HF1.out.trans (Fr.grown lv hg (.inr rfl))⟩
end Go.Proofs.YtlgghomjlhnijaaGreat
