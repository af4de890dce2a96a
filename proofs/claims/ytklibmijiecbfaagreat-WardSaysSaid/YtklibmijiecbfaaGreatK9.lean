/- checkAlive, Phase, Map, Unmap, Put. -/
import Derived.Test.YtklibmijiecbfaaGreatK8
import Derived.Test.YtklibmijiecbfaaGreatK7
import Derived.Deep.RegionHeld3
import Derived.Deep.DeepCutAuto
import Derived.Lib.SmallJoins
import Derived.Test.YtklibmijiecbfaaGreatK4
namespace Go.Proofs.YtklibmijiecbfaaGreat
open Go.RowKit Mm

/-- What is wrong with a thread that can neither enter a call nor do a step. -/
def aliveF (n : Int) (s : WS) : Nat := if 0 ≤ n ∧ n < 3 then (if (s.T n.toNat).phase = 6 then 8 else 0) else 1
theorem alive_any {g gm : Nat} {P : PV} {s : WS} {lv : Value} {W : World} (n : Int) (h : WX g gm P s lv W) :
    Calls Tryz.prog 26 #[.pointer (some ⟨g, 0, none⟩), .int .i64 n] W fun e w' => e = .returned (errV (aliveF n s)) ∧ w' = W := by
  have HT := isThread_any n W
  unfold aliveF
  by_cases hn : 0 ≤ n ∧ n < 3
  · rw [if_pos hn]
    rw [show (decide (0 ≤ n) && decide (n < 3)) = true by simp [hn]] at HT
    obtain ⟨k, rfl⟩ : ∃ k : Nat, n = k := ⟨n.toNat, by omega⟩
    have hk : k < 3 := by omega
    have j1 : (0 : Int) ≤ k := hn.1
    have j2 : (k : Int) < 3 := hn.2
    rw [Int.toNat_natCast]
    have cp := h.phase k hk
    obtain ⟨q, hq⟩ : ∃ q, q = (s.T k).phase := ⟨_, rfl⟩
    rw [← hq] at cp
    rw [← hq]
    clear h hq hn
    by_cases h6 : q = 6
    · subst h6
      rw [if_pos rfl, errV_pos (by omega)]
      go_enter Tryz.func26, Tryz.ntmps26
      go_wp2_with fail
      refine HT.mono ?_
      rintro e w' ⟨rfl, rfl⟩
      go_wp2
      go_ret
      exact ⟨rfl, rfl⟩
    · rw [if_neg h6, errV_zero]
      have h6' : ¬ ((q : Int) = 6) := by omega
      go_enter Tryz.func26, Tryz.ntmps26
      go_wp2_with fail
      refine HT.mono ?_
      rintro e w' ⟨rfl, rfl⟩
      go_wp2
      go_ret
      exact ⟨rfl, rfl⟩
  · rw [if_neg hn, errV_pos (by omega)]
    rw [show (decide (0 ≤ n) && decide (n < 3)) = false by
      by_cases h0 : 0 ≤ n
      · rw [decide_eq_false (p := n < 3) (fun h3 => hn ⟨h0, h3⟩), Bool.and_false]
      · rw [decide_eq_false h0, Bool.false_and]] at HT
    clear h
    go_enter Tryz.func26, Tryz.ntmps26
    go_wp2_with fail
    refine HT.mono ?_
    rintro e w' ⟨rfl, rfl⟩
    go_wp2
    go_ret
    exact ⟨rfl, rfl⟩
theorem wphase_any {g gm : Nat} {P : PV} {s : WS} {lv : Value} {W : World} (n : Int) (h : WX g gm P s lv W) :
    Calls Tryz.prog 39 #[.pointer (some ⟨g, 0, none⟩), .int .i64 n] W fun e w' => e = .returned (.int .i64 (phaseW n s : Nat)) ∧ w' = W := by
  have HT := isThread_any n W
  unfold phaseW
  by_cases hn : 0 ≤ n ∧ n < 3
  · rw [if_pos hn]
    rw [show (decide (0 ≤ n) && decide (n < 3)) = true by simp [hn]] at HT
    obtain ⟨k, rfl⟩ : ∃ k : Nat, n = k := ⟨n.toNat, by omega⟩
    have hk : k < 3 := by omega
    have j1 : (0 : Int) ≤ k := hn.1
    have j2 : (k : Int) < 3 := hn.2
    rw [Int.toNat_natCast]
    have cp := h.phase k hk
    obtain ⟨q, hq⟩ : ∃ q, q = (s.T k).phase := ⟨_, rfl⟩
    rw [← hq] at cp
    rw [← hq]
    clear h hq hn
    go_enter Tryz.func39, Tryz.ntmps39
    go_wp2_with fail
    refine HT.mono ?_
    rintro e w' ⟨rfl, rfl⟩
    go_wp2
    go_ret
    exact ⟨rfl, rfl⟩
  · rw [if_neg hn]
    rw [show (decide (0 ≤ n) && decide (n < 3)) = false by
      by_cases h0 : 0 ≤ n
      · rw [decide_eq_false (p := n < 3) (fun h3 => hn ⟨h0, h3⟩), Bool.and_false]
      · rw [decide_eq_false h0, Bool.false_and]] at HT
    clear h
    go_enter Tryz.func39, Tryz.ntmps39
    go_wp2_with fail
    refine HT.mono ?_
    rintro e w' ⟨rfl, rfl⟩
    go_wp2
    go_ret
    exact ⟨rfl, rfl⟩
/-- What an act on a ward's memory does to the world. -/
def GoesM (g gm : Nat) (P : PV) (s : WS) (r : MS × Nat) (lv : Value) (W : World) (e : Ending) (w' : World) : Prop := e = .returned (errV r.2) ∧ WX g gm P { s with mem := r.1 } lv w' ∧ Fr g gm lv lv W w'
theorem wmap_any {g gm : Nat} {P : PV} {s : WS} {lv : Value} {W : World} (n : Int) (b : Bool) (h : WX g gm P s lv W) :
    Calls Tryz.prog 13 #[.pointer (some ⟨g, 0, none⟩), .int .i64 n, .bool b] W (GoesM g gm P s (mapW n b s.mem) lv W) := by
  have HM := mmap_any h.mem n b
  have HX := hide h
  have cp := h.ptr
  obtain ⟨r, hr⟩ : ∃ r, r = mapW n b s.mem := ⟨_, rfl⟩
  rw [← hr] at HM
  rw [← hr]
  obtain ⟨v, hv⟩ : ∃ v, v = errV r.2 := ⟨_, rfl⟩
  unfold GoesM
  rw [← hv] at HM
  rw [← hv]
  clear h hr hv
  go_enter Tryz.func13, Tryz.ntmps13
  go_wp2_with fail
  refine HM.mono ?_
  rintro e w' ⟨rfl, h1, h2⟩
  go_wp2
  go_ret
  exact ⟨rfl, HX.out.memo h1 h2, Fr.grown lv h2 (.inr rfl)⟩
theorem wunmap_any {g gm : Nat} {P : PV} {s : WS} {lv : Value} {W : World} (n : Int) (h : WX g gm P s lv W) :
    Calls Tryz.prog 33 #[.pointer (some ⟨g, 0, none⟩), .int .i64 n] W (GoesM g gm P s (unmapW n s.mem) lv W) := by
  have HM := munmap_any h.mem n
  have HX := hide h
  have cp := h.ptr
  obtain ⟨r, hr⟩ : ∃ r, r = unmapW n s.mem := ⟨_, rfl⟩
  rw [← hr] at HM
  rw [← hr]
  obtain ⟨v, hv⟩ : ∃ v, v = errV r.2 := ⟨_, rfl⟩
  unfold GoesM
  rw [← hv] at HM
  rw [← hv]
  clear h hr hv
  go_enter Tryz.func33, Tryz.ntmps33
  go_wp2_with fail
  refine HM.mono ?_
  rintro e w' ⟨rfl, h1, h2⟩
  go_wp2
  go_ret
  exact ⟨rfl, HX.out.memo h1 h2, Fr.grown lv h2 (.inr rfl)⟩
theorem wput_any {g gm : Nat} {P : PV} {s : WS} {lv : Value} {W : World} (a : Nat) (l : ByteArray) (ha : a < 18446744073709551616) (hl : l.size ≤ 1000) (h : WX g gm P s lv W) :
    Calls Tryz.prog 35 #[.pointer (some ⟨g, 0, none⟩), .int .u64 a, .string l] W (GoesM g gm P s (putW a l s.mem) lv W) := by
  have HM := mput_any h.mem a l ha hl
  have HX := hide h
  have cp := h.ptr
  obtain ⟨r, hr⟩ : ∃ r, r = putW a l s.mem := ⟨_, rfl⟩
  rw [← hr] at HM
  rw [← hr]
  obtain ⟨v, hv⟩ : ∃ v, v = errV r.2 := ⟨_, rfl⟩
  unfold GoesM
  rw [← hv] at HM
  rw [← hv]
  clear h hr hv
  go_enter Tryz.func35, Tryz.ntmps35
  go_wp2_with fail
  refine HM.mono ?_
  rintro e w' ⟨rfl, h1, h2⟩
  go_wp2
  go_ret
  exact ⟨rfl, HX.out.memo h1 h2, Fr.grown lv h2 (.inr rfl)⟩
end Go.Proofs.YtklibmijiecbfaaGreat

/- Enter. -/
namespace Go.Proofs.YtklibmijiecbfaaGreat
open Go.RowKit Mm

theorem wenter_err {g gm : Nat} {P : PV} {s : WS} {lv : Value} {W : World} (n : Int) (c : KL) (hf : aliveF n s ≠ 0) (h : WX g gm P s lv W) :
    Calls Tryz.prog 14 #[.pointer (some ⟨g, 0, none⟩), .int .i64 n, klV c] W fun e w' => e = .returned (errV (aliveF n s)) ∧ Below W.heap.size W w' := by
  have HA := alive_any n (h.on (box_below W (.cells (klC c) 52)))
  rw [errV_pos hf] at HA
  rw [errV_pos hf]
  obtain ⟨f, hf'⟩ : ∃ f, f = aliveF n s := ⟨_, rfl⟩
  rw [← hf'] at HA
  rw [← hf']
  clear h hf' hf
  unfold klV klC
  unfold klC at HA
  go_enter Tryz.func14, Tryz.ntmps14
  go_wp2_with fail
  refine HA.mono ?_
  rintro e w' ⟨rfl, rfl⟩
  go_wp2
  go_ret
  exact ⟨rfl, box_below _ _⟩
theorem wenter_busy {g gm : Nat} {P : PV} {s : WS} {lv : Value} {W : World} (n : Nat) (hn : n < 3) (c : KL) (hq : (s.T n).phase ≠ 0) (hq6 : (s.T n).phase ≠ 6) (h : WX g gm P s lv W) :
    Calls Tryz.prog 14 #[.pointer (some ⟨g, 0, none⟩), .int .i64 n, klV c] W fun e w' => e = .returned (errV 7) ∧ Below W.heap.size W w' := by
  have hX := h.on (box_below W (.cells (klC c) 52))
  have HA := alive_any n hX
  have j1 : (0 : Int) ≤ n := by omega
  have j2 : (n : Int) < 3 := by omega
  rw [show aliveF n s = 0 by unfold aliveF; rw [if_pos ⟨j1, j2⟩, Int.toNat_natCast, if_neg hq6], errV_zero] at HA
  rw [errV_pos (by omega)]
  have cp := hX.phase n hn
  obtain ⟨q, hqq⟩ : ∃ q, q = (s.T n).phase := ⟨_, rfl⟩
  rw [← hqq] at cp hq
  have hq' : ¬ ((q : Int) = 0) := by omega
  clear h hqq hq6 hX
  unfold klV klC
  unfold klC at HA cp
  go_enter Tryz.func14, Tryz.ntmps14
  go_wp2_with fail
  refine HA.mono ?_
  rintro e w' ⟨rfl, rfl⟩
  go_wp2
  go_ret
  exact ⟨rfl, box_below _ _⟩
/-- The cells of a thread that enters a call. -/
def eThread (c : KL) : Array Value := #[.int .i64 1, .int .u32 c.arch, .int .u32 c.nr, .int .u64 c.a0, .int .u64 c.a1, .int .u64 c.a2, .int .u64 c.a3, .int .u64 c.a0, .int .u64 c.a1, .int .u64 c.a2, .int .u64 c.a3, .bool false, .bool false, .bool false, .bool false, .int .i64 0, .string ⟨#[]⟩, .string ⟨#[]⟩, .int .u32 0, .int .i64 0, .string ⟨#[]⟩, .int .u32 0, .int .i64 0, .string ⟨#[]⟩, .int .u32 0, .int .i64 0, .string ⟨#[]⟩, .int .u32 0, .int .i64 0]
theorem eThread_at (c : KL) : ∀ j, j < 29 → (eThread c).toList.getD j undef = cellT (enterT c) j := by
  intro j hj
  match j, hj with
  | 0, _ => rfl
  | 1, _ => rfl
  | 2, _ => rfl
  | 3, _ => rfl
  | 4, _ => rfl
  | 5, _ => rfl
  | 6, _ => rfl
  | 7, _ => rfl
  | 8, _ => rfl
  | 9, _ => rfl
  | 10, _ => rfl
  | 11, _ => rfl
  | 12, _ => rfl
  | 13, _ => rfl
  | 14, _ => rfl
  | 15, _ => rfl
  | 16, _ => rfl
  | 17, _ => rfl
  | 18, _ => rfl
  | 19, _ => rfl
  | 20, _ => rfl
  | 21, _ => rfl
  | 22, _ => rfl
  | 23, _ => rfl
  | 24, _ => rfl
  | 25, _ => rfl
  | 26, _ => rfl
  | 27, _ => rfl
  | 28, _ => rfl
  | j + 29, hj => omega
theorem eThread_one (c : KL) : (eThread c).all (·.oneCell') = true := by simp [eThread, Value.oneCell']
theorem wp_buildC {o : Oper} {a : Act} {w : World} {K : Act → World → Prop} {Q : Exit → Act → World → Prop} (t : TypeId) (parts : Array (Nat × Operand)) (ho : o.op = .build t parts) (d : Option Tmp) (hd : o.dst = d) (cells : Array Value)
    (hf : Tryz.prog.built t (parts.map fun (i, x) => (i, a.eval x)).toList = some cells) (h : K (a.put d (.agg cells)) w) : o.wp Tryz.prog a w K Q := by
  subst hd
  refine wp_build t parts ho (by rw [hf]; rfl) ?_
  rw [hf]
  exact h
set_option maxHeartbeats 2000000 in
set_option maxRecDepth 20000 in
theorem wenter_ok {g gm : Nat} {P : PV} {s : WS} {lv : Value} {W : World} (n : Nat) (hn : n < 3) (c : KL) (hq : (s.T n).phase = 0) (h : WX g gm P s lv W) :
    Calls Tryz.prog 14 #[.pointer (some ⟨g, 0, none⟩), .int .i64 n, klV c] W fun e w' => e = .returned .nilIface ∧ WX g gm P (s.put n (enterT c)) lv w' ∧ Fr g gm lv lv W w' := by
  have hX := h.on (box_below W (.cells (klC c) 52))
  have HA := alive_any n hX
  have j1 : (0 : Int) ≤ n := by omega
  have j2 : (n : Int) < 3 := by omega
  rw [show aliveF n s = 0 by unfold aliveF; rw [if_pos ⟨j1, j2⟩, Int.toNat_natCast, if_neg (by omega)], errV_zero] at HA
  have cp := hX.phase n hn
  rw [hq] at cp
  have hY := hX.on (Below.refl _ _).drew
  have HY := hide hY
  obtain ⟨zt, hzt⟩ : ∃ z, z = eThread c := ⟨_, rfl⟩
  have HZT := hide hzt
  have HTH := hide (hY.setTh n hn zt (by rw [hzt]; rfl) (enterT c) (fun j hj => by rw [hzt]; exact eThread_at c j hj))
  have HFT := hide ((Fr.of (g := g) (gm := gm) lv (box_below W (.cells (klC c) 52))).trans ((Fr.of lv (Below.refl _ _).drew).trans (Fr.cells (g := g) (gm := gm) lv _ (4 + n * 29) zt.toList)))
  clear h hX hY hq hzt
  unfold klV klC
  unfold klC at HA cp HY HTH HFT
  go_enter Tryz.func14, Tryz.ntmps14
  go_wp2_with fail
  refine HA.mono ?_
  rintro e w' ⟨rfl, rfl⟩
  go_wp2_with fail
  obtain ⟨r, hr⟩ : ∃ r, r = W.heap.size := ⟨_, rfl⟩
  have hb : (W.alloc (.cells #[.int .u32 c.arch, .int .u32 c.nr, .int .u64 c.a0, .int .u64 c.a1, .int .u64 c.a2, .int .u64 c.a3] 52)).drew.heap[r]? = some (.cells #[.int .u32 c.arch, .int .u32 c.nr, .int .u64 c.a0, .int .u64 c.a1, .int .u64 c.a2, .int .u64 c.a3] 52 (0, 0)) := by rw [hr]; exact heap_alloc_new W _
  rw [← hr]
  obtain ⟨X, hXX⟩ : ∃ X, X = (W.alloc (.cells #[.int .u32 c.arch, .int .u32 c.nr, .int .u64 c.a0, .int .u64 c.a1, .int .u64 c.a2, .int .u64 c.a3] 52)) := ⟨_, rfl⟩
  rw [← hXX] at hb HY HTH HFT
  rw [← hXX]
  clear hXX hr HA cp
  have b0 := cell_of_row _ _ 0 _ _ _ hb
  have b1 := cell_of_row _ _ 1 _ _ _ hb
  have b2 := cell_of_row _ _ 2 _ _ _ hb
  have b3 := cell_of_row _ _ 3 _ _ _ hb
  have b4 := cell_of_row _ _ 4 _ _ _ hb
  have b5 := cell_of_row _ _ 5 _ _ _ hb
  simp only [List.getElem?_toArray, List.getElem?_cons_zero, List.getElem?_cons_succ] at b0 b1 b2 b3 b4 b5
  refine wp_region_any (by kernel_rfl) ?_
  change wpAny _ _ _ _ _ _ _ (World.drew _)
  refine Gl.wpAny_takeOf 0 (some 23) (.pointer (some ⟨g, 0, none⟩)) rfl rfl (by kernel_rfl) (by kernel_rfl) (by kernel_rfl) (fun _ _ _ h => h) (Or.inl ⟨by rfl, ?_⟩) ?_
  · intro wx
    go_simp
  try simp only [Act.put, List.setIfInBounds_toArray, List.set_cons_zero, List.set_cons_succ]
  refine Gl.wpAny_takeOf 1 (some 24) (.int .i64 n) rfl rfl (by kernel_rfl) (by kernel_rfl) (by kernel_rfl) (fun _ _ _ h => h) (Or.inl ⟨by rfl, ?_⟩) ?_
  · intro wx
    go_simp
  try simp only [Act.put, List.setIfInBounds_toArray, List.set_cons_zero, List.set_cons_succ]
  refine Gl.wpAny_takeOf 3 (some 26) (.pointer (some ⟨r, 2, none⟩)) rfl rfl (by kernel_rfl) (by kernel_rfl) (by kernel_rfl) (fun _ _ _ h => h) (Or.inl ⟨by rfl, ?_⟩) ?_
  · intro wx
    go_simp
  try simp only [Act.put, List.setIfInBounds_toArray, List.set_cons_zero, List.set_cons_succ]
  refine Gl.wpAny_takeOf 6 (some 29) (.pointer (some ⟨g, 0, none⟩)) rfl rfl (by kernel_rfl) (by kernel_rfl) (by kernel_rfl) (fun _ _ _ h => h) (Or.inl ⟨by rfl, ?_⟩) ?_
  · intro wx
    go_simp
  try simp only [Act.put, List.setIfInBounds_toArray, List.set_cons_zero, List.set_cons_succ]
  refine Gl.wpAny_takeOf 7 (some 30) (.pointer (some ⟨g, 4, none⟩)) rfl rfl (by kernel_rfl) (by kernel_rfl) (by kernel_rfl) (fun _ _ _ h => h) (Or.inl ⟨by rfl, ?_⟩) ?_
  · intro wx
    go_simp
  try simp only [Act.put, List.setIfInBounds_toArray, List.set_cons_zero, List.set_cons_succ]
  refine wpAny_two (i := 2) (j := 4) (by kernel_rfl) rfl rfl rfl rfl (fun K hK => ?_) (fun K hK => ?_)
  · go_simp
    refine hK _ _ ?_
    clear hK K
    try simp only [Act.put, List.setIfInBounds_toArray, List.set_cons_zero, List.set_cons_succ]
    refine Gl.wpAny_only (i := 4) (by kernel_rfl) rfl rfl (fun K hK => ?_)
    go_simp
    refine hK _ _ ?_
    clear hK K
    try simp only [Act.put, List.setIfInBounds_toArray, List.set_cons_zero, List.set_cons_succ]
    refine Gl.wpAny_only (i := 5) (by kernel_rfl) rfl rfl (fun K hK => ?_)
    refine wp_buildC 76 _ rfl (some 28) rfl zt (by rw [HZT.out]; first | kernel_rfl | rfl) ?_
    refine hK _ _ ?_
    clear hK K
    try simp only [Act.put, List.setIfInBounds_toArray, List.set_cons_zero, List.set_cons_succ]
    refine Gl.wpAny_only (i := 8) (by kernel_rfl) rfl rfl (fun K hK => ?_)
    go_simp
    refine hK _ _ ?_
    clear hK K
    try simp only [Act.put, List.setIfInBounds_toArray, List.set_cons_zero, List.set_cons_succ]
    refine Gl.wpAny_only (i := 9) (by kernel_rfl) rfl rfl (fun K hK => ?_)
    refine wp_store_mid (P := Tryz.prog) 76 _ _ rfl g (4 + n * 29) zt rfl rfl (by intro j hj; exact ⟨by rw [HY.out.cell _ (by have h29 : j < 29 := (by rw [HZT.out] at hj; exact hj); omega)]; rfl, HY.out.fro _⟩) (by rw [HZT.out]; exact size_thread) (by rw [HZT.out]; exact eThread_one c) ?_
    refine hK _ _ ?_
    clear hK K
    try simp only [Act.put]
    refine wpAny_done (by kernel_rfl) ?_ _
    go_wp2
    go_ret
    exact ⟨rfl, HTH.out, HFT.out⟩
  · go_simp
    refine hK _ _ ?_
    clear hK K
    try simp only [Act.put, List.setIfInBounds_toArray, List.set_cons_zero, List.set_cons_succ]
    refine Gl.wpAny_only (i := 2) (by kernel_rfl) rfl rfl (fun K hK => ?_)
    go_simp
    refine hK _ _ ?_
    clear hK K
    try simp only [Act.put, List.setIfInBounds_toArray, List.set_cons_zero, List.set_cons_succ]
    refine Gl.wpAny_only (i := 5) (by kernel_rfl) rfl rfl (fun K hK => ?_)
    refine wp_buildC 76 _ rfl (some 28) rfl zt (by rw [HZT.out]; first | kernel_rfl | rfl) ?_
    refine hK _ _ ?_
    clear hK K
    try simp only [Act.put, List.setIfInBounds_toArray, List.set_cons_zero, List.set_cons_succ]
    refine Gl.wpAny_only (i := 8) (by kernel_rfl) rfl rfl (fun K hK => ?_)
    go_simp
    refine hK _ _ ?_
    clear hK K
    try simp only [Act.put, List.setIfInBounds_toArray, List.set_cons_zero, List.set_cons_succ]
    refine Gl.wpAny_only (i := 9) (by kernel_rfl) rfl rfl (fun K hK => ?_)
    refine wp_store_mid (P := Tryz.prog) 76 _ _ rfl g (4 + n * 29) zt rfl rfl (by intro j hj; exact ⟨by rw [HY.out.cell _ (by have h29 : j < 29 := (by rw [HZT.out] at hj; exact hj); omega)]; rfl, HY.out.fro _⟩) (by rw [HZT.out]; exact size_thread) (by rw [HZT.out]; exact eThread_one c) ?_
    refine hK _ _ ?_
    clear hK K
    try simp only [Act.put]
    refine wpAny_done (by kernel_rfl) ?_ _
    go_wp2
    go_ret
    exact ⟨rfl, HTH.out, HFT.out⟩
end Go.Proofs.YtklibmijiecbfaaGreat

/- Three operations that may come up. -/
namespace Go.Proofs.YtklibmijiecbfaaGreat
open Go.RowKit

theorem wpAny_three {P : Program} {md : Region.Mode} {ops : Array Oper} {Q : Exit → Act → World → Prop} {fuel : Nat} {listed : Array Bool} {a : Act} {w : World} {i j k : Nat} {o p q : Oper} (hr : Region.ready md ops listed = [i, j, k]) (ho : ops.toList[i]? = some o) (hg : o.guard = none) (hp : ops.toList[j]? = some p) (hgp : p.guard = none) (hq : ops.toList[k]? = some q) (hgq : q.guard = none)
    (h : ∀ K : Act → World → Prop, (∀ a w, wpAny P md ops Q fuel (listed.setIfInBounds i true) a w → K a w) → Oper.wp P o a w K Q)
    (h2 : ∀ K : Act → World → Prop, (∀ a w, wpAny P md ops Q fuel (listed.setIfInBounds j true) a w → K a w) → Oper.wp P p a w K Q)
    (h3 : ∀ K : Act → World → Prop, (∀ a w, wpAny P md ops Q fuel (listed.setIfInBounds k true) a w → K a w) → Oper.wp P q a w K Q) : wpAny P md ops Q (fuel + 1) listed a w := by
  refine wpAny_ready hr (by simp) ?_
  refine AllReady.cons (o := o) (by simpa using ho) (fun K hK => ?_) (AllReady.cons (o := p) (by simpa using hp) (fun K hK => ?_) (AllReady.cons (o := q) (by simpa using hq) (fun K hK => ?_) AllReady.nil))
  · have hw : Region.wanted o (yielded ops a.tmps) = true := by simp [Region.wanted, hg]
    rw [if_pos hw]
    exact h K hK
  · have hw : Region.wanted p (yielded ops a.tmps) = true := by simp [Region.wanted, hgp]
    rw [if_pos hw]
    exact h2 K hK
  · have hw : Region.wanted q (yielded ops a.tmps) = true := by simp [Region.wanted, hgq]
    rw [if_pos hw]
    exact h3 K hK
end Go.Proofs.YtklibmijiecbfaaGreat

/- The document's end of a call. -/
namespace Go.Proofs.YtklibmijiecbfaaGreat
open Go.RowKit Mm

theorem cellDT_asked (t : DT) (sv : Value) : cellDT t sv 1 = .int .u32 t.asked.arch ∧ cellDT t sv 2 = .int .u32 t.asked.nr ∧ cellDT t sv 3 = .int .u64 t.asked.a0 ∧ cellDT t sv 4 = .int .u64 t.asked.a1 ∧ cellDT t sv 5 = .int .u64 t.asked.a2 ∧ cellDT t sv 6 = .int .u64 t.asked.a3 := ⟨rfl, rfl, rfl, rfl, rfl, rfl⟩
theorem size_rthread : (Tryz.prog.info? 92).map (·.size) = some 31 := by kernel_rfl
def zDT : Array Value := #[.int .i64 0, .int .u32 0, .int .u32 0, .int .u64 0, .int .u64 0, .int .u64 0, .int .u64 0, .int .u32 0, .int .u32 0, .int .u64 0, .int .u64 0, .int .u64 0, .int .u64 0, .string ⟨#[]⟩, .string ⟨#[]⟩, .string ⟨#[]⟩, .string ⟨#[]⟩, .int .i64 0, .string ⟨#[]⟩, .int .u32 0, .int .i64 0, .string ⟨#[]⟩, .int .u32 0, .int .i64 0, .string ⟨#[]⟩, .int .u32 0, .int .i64 0, .string ⟨#[]⟩, .int .u32 0, .int .i64 0, .slice none 0 0]
theorem zDT_at : ∀ j, j < 31 → zDT.toList.getD j undef = cellDT (dIdle 0) (.slice none 0 0) j := fun j hj => by
  refine cases31 (Q := fun j => zDT.toList.getD j undef = cellDT (dIdle 0) (.slice none 0 0) j) hj ?_ ?_ ?_ ?_ ?_ ?_ ?_ ?_ ?_ ?_ ?_ ?_ ?_ ?_ ?_ ?_ ?_ ?_ ?_ ?_ ?_ ?_ ?_ ?_ ?_ ?_ ?_ ?_ ?_ ?_ ?_ <;> rfl
theorem zDT_one : zDT.all (·.oneCell') = true := by simp [zDT, Value.oneCell']
theorem run_buildC {o : Oper} {a : Act} {w : World} (ty : TypeId) (parts : Array (Nat × Operand)) (ho : o.op = .build ty parts) {cells : Array Value} (hf : Tryz.prog.built ty (parts.map fun (i, x) => (i, a.eval x)).toList = some cells) : (execOp a.eval o).run Tryz.prog w = .ok (.value (.agg cells)) w := by
  unfold execOp
  simp only [ho, Sem.run_bind, run_build w ty _ cells hf, Result.andThen_ok]
  rfl
theorem run_buildE {o : Oper} {a : Act} {w : World} (x0 x1 x2 x3 x4 : Operand) (v0 v1 v2 v3 v4 : Value) (ho : o.op = .build 70 #[(0, x0), (1, x1), (2, x2), (3, x3), (4, x4)]) (h0 : a.eval x0 = v0) (h1 : a.eval x1 = v1) (h2 : a.eval x2 = v2) (h3 : a.eval x3 = v3) (h4 : a.eval x4 = v4) {cells : Array Value} (hf : Tryz.prog.built 70 [(0, v0), (1, v1), (2, v2), (3, v3), (4, v4)] = some cells) : (execOp a.eval o).run Tryz.prog w = .ok (.value (.agg cells)) w :=
  run_buildC _ _ ho (by simpa [h0, h1, h2, h3, h4] using hf)
theorem size_call6 : (Tryz.prog.info? 52).map (·.size) = some 6 := by kernel_rfl
theorem size_vals12 : (Tryz.prog.info? 68).map (·.size) = some 12 := by kernel_rfl
theorem DX.askr {g : Nat} {P : PV} {d : DWS} {sv : Nat → Value} {lv : Value} {W : World} (h : DX g P d sv lv W) (n : Nat) (hn : n < 3) : W.rangeAt g (783 + n * 31 + 1) (klC (d.T n).asked).toList := fun j v hv => by
  have hj : j < 6 := (List.getElem?_eq_some_iff.1 hv).1
  rw [show 783 + n * 31 + 1 + j = 783 + n * 31 + (1 + j) by omega, h.th n (1 + j) hn (by omega), ← hv]
  rcases show j = 0 ∨ j = 1 ∨ j = 2 ∨ j = 3 ∨ j = 4 ∨ j = 5 by omega with rfl | rfl | rfl | rfl | rfl | rfl <;> rfl
/-- A thread's sealed pages are few, and addresses. -/
def SealOk (t : DT) : Prop := t.seals.length ≤ 4 ∧ ∀ x ∈ t.seals, x < 18446744073709551616
theorem dend_eq (n kind : Nat) (errno : Int) (v : VS) (d : DWS) : dend n kind errno v d = DWS.put ⟨d.T, (d.T n).seals.foldl freeM d.mem, d.log ++ [⟨kind, n, (d.T n).asked, v, errno⟩]⟩ n (dIdle (if kind = 3 then 6 else 0)) := rfl
theorem take_succ_foldl (l : List Nat) (m : MS) (i : Nat) (hi : i < l.length) : (l.take (i + 1)).foldl freeM m = freeM ((l.take i).foldl freeM m) l[i] := by
  rw [List.take_add_one, List.foldl_append, List.getElem?_eq_getElem hi]
  rfl
/-- A thread's list of sealed pages. -/
theorem own_u64 {W : World} {v : Value} {l : List Nat} (h : W.ownsRow 0 42 1 v l.length (u64L l)) : ∃ o cap, v = .slice o l.length cap ∧ ∀ i (hi : i < l.length), ∃ b, o = some ⟨b, 0, none⟩ ∧ W.cell? ⟨b, i, none⟩ = some (.int .u64 (l[i] : Nat)) := by
  rcases h.2 with ⟨rfl, h0⟩ | ⟨b, cap, cur, rfl, -, hrow, -, -, -, htk⟩
  · exact ⟨none, 0, by rw [h0], fun i hi => by omega⟩
  · refine ⟨some ⟨b, 0, none⟩, cap, rfl, fun i hi => ⟨b, rfl, ?_⟩⟩
    rw [cell_of_row _ _ i _ _ _ hrow]
    have hj : (u64L l)[i]? = some (.int .u64 (l[i] : Nat)) := by unfold u64L; rw [List.getElem?_map, List.getElem?_eq_getElem hi]; rfl
    rw [← htk, List.getElem?_take, if_pos (by omega)] at hj
    simpa using hj
theorem DX.sealc {g : Nat} {P : PV} {d : DWS} {sv : Nat → Value} {lv : Value} {W : World} (h : DX g P d sv lv W) (n : Nat) (hn : n < 3) : ∃ o cap, W.cell? ⟨g, 783 + n * 31 + 30, none⟩ = some (.slice o (d.T n).seals.length cap) ∧ ∀ i (hi : i < (d.T n).seals.length), ∃ b, o = some ⟨b, 0, none⟩ ∧ W.cell? ⟨b, i, none⟩ = some (.int .u64 ((d.T n).seals[i] : Nat)) := by
  obtain ⟨o, cap, h1, h2⟩ := own_u64 (h.sls n hn)
  refine ⟨o, cap, ?_, h2⟩
  rw [h.th n 30 hn (by omega), ← h1]
  rfl
set_option maxHeartbeats 4000000 in
set_option maxRecDepth 100000 in
theorem dend_any {g : Nat} {P : PV} {d : DWS} {sv : Nat → Value} {lv : Value} {W : World} (n : Nat) (hn : n < 3) (kind : Nat) (errno : Int) (v : VS) (h : DX g P d sv lv W) (hlog : d.log.length ≤ 1000000) (hs64 : SealOk (d.T n)) :
    Calls Tryz.prog 94 #[.pointer (some ⟨g, 0, none⟩), .int .i64 n, .int .i64 kind, .int .i64 errno, vsV v] W (DGoes g P (dend n kind errno v d) sv lv W) := by
  have j1 : (0 : Int) ≤ n := by omega
  have j2 : (n : Int) < 3 := by omega
  obtain ⟨k, hk⟩ : ∃ k, k = (d.T n).asked := ⟨_, rfl⟩
  have HX := hide (h.on (box_below W (.cells (vsC v) 68)))
  obtain ⟨r, hr⟩ : ∃ r, r = W.heap.size := ⟨_, rfl⟩
  have hgr : g ≠ r := by rw [hr]; exact Nat.ne_of_lt h.glt
  obtain ⟨X, hX⟩ : ∃ X, X = W.alloc (.cells (vsC v) 68) := ⟨_, rfl⟩
  have hbx : X.heap[r]? = some (.cells (vsC v) 68 (0, 0)) := by rw [hX, hr]; exact heap_alloc_new _ _
  rw [← hX] at HX
  have hrow : X.drew.heap[r]? = some (.cells (vsC v) 68 (0, 0)) := hbx
  have hrng : X.drew.rangeAt g (783 + n * 31 + 1) (klC k).toList := by rw [hk]; exact (HX.out.on (Below.refl _ _).drew).askr n hn
  have HFX := hide (show DFr g sv lv sv lv W X by rw [hX]; exact DFr.of sv lv (box_below _ _))
  have hgX := HX.out.glt
  have hrX : r < X.heap.size := (Array.getElem?_eq_some_iff.1 hbx).1
  have cl : X.drew.cell? ⟨g, 876, none⟩ = some lv := HX.out.logc
  have fl : X.drew.frozen? ⟨g, 876, none⟩ = false := HX.out.fro _
  unfold vsV
  obtain ⟨vc, hvc⟩ : ∃ c, c = vsC v := ⟨_, rfl⟩
  obtain ⟨kc, hkc⟩ : ∃ c, c = klC k := ⟨_, rfl⟩
  have hvs : vc.size = 12 := by rw [hvc]; rfl
  have hks : kc.toList.length = 6 := by rw [hkc]; rfl
  rw [← hvc] at hX hrow hbx
  rw [← hkc] at hrng
  rw [← hvc]
  have HXX := hide hX
  obtain ⟨inf, hi0, hz0, hz1, hz2⟩ := info_entry
  obtain ⟨L, hL⟩ : ∃ L, L = d.log.length := ⟨_, rfl⟩
  rw [← hL] at hlog
  obtain ⟨c1, hc1⟩ : ∃ c, c = entA kind n k v errno := ⟨_, rfl⟩
  have HC1 := hide hc1
  have HB16 : Tryz.prog.built 70 [(0, .int .i64 kind), (1, .int .i64 n), (2, .agg kc), (3, .agg vc), (4, .int .i64 errno)] = some c1 := by
    rw [hc1, hkc, hvc]
    kernel_rfl
  have HBS := fun W => build_entry kind n k v errno W
  rw [← hc1] at HBS
  have HON := hide (show ∀ u ∈ c1.toList, u.oneCell' = true by rw [hc1]; exact ent_one _ _ _ _ _)
  have HSZ := hide (show c1.toList.length = 1 * 21 by rw [hc1]; rfl)
  have HOA := hide (show (X.alloc (.cells c1 70)).drew.ownsRow 0 70 21 lv L (flatE d.log) by rw [hL]; exact HX.out.own.alloc _)
  have HNB := hide (show (X.alloc (.cells c1 70)).drew.heap[X.heap.size]? = some (.cells c1 70 (0, 0)) from heap_alloc_new X _)
  have cl3 : (X.alloc (.cells c1 70)).drew.cell? ⟨g, 876, none⟩ = some lv := keep_cell (box_below X (.cells c1 70)).drew HX.out.logc
  have HCF : Hid (∀ w2 : World, (X.alloc (.cells c1 70)).drew.grownBy w2 lv.ownBlock → w2.cell? ⟨g, 876, none⟩ = some lv ∧ w2.frozen? ⟨g, 876, none⟩ = false) := hide (fun w2 hgrow => by
    obtain ⟨rr, hrr, _⟩ := HX.out.mem
    have hB : w2.heap[g]? = X.heap[g]? := (hgrow.block g (by show g < (X.alloc _).heap.size; rw [World.size_alloc]; omega) (fun e => HX.out.nl.1 e.symm)).trans ((box_below X _).block g hgX)
    exact ⟨(cell_heap hB 876).trans cl, frozen_of_row _ _ 876 _ _ (hB.trans hrr)⟩)
  have HFIN : Hid (∀ (gg cap1 : Nat) (w2 : World), w2.ownsRow 0 70 21 (.slice (some ⟨gg, 0, none⟩) (L + 1) cap1) (L + 1) (flatE d.log ++ c1.toList) → (X.alloc (.cells c1 70)).drew.grownBy w2 lv.ownBlock → (lv.ownBlock = some gg ∨ gg = X.heap.size + 1) → Hid (∃ lv', DX g P { d with log := d.log ++ [⟨kind, n, k, v, errno⟩] } sv lv' (w2.setCell ⟨g, 876, none⟩ (.slice (some ⟨gg, 0, none⟩) (L + 1) cap1)) ∧ DFr g sv lv sv lv' W (w2.setCell ⟨g, 876, none⟩ (.slice (some ⟨gg, 0, none⟩) (L + 1) cap1)))) := hide (fun gg cap1 w2 ho hg hat => hide ⟨.slice (some ⟨gg, 0, none⟩) (L + 1) cap1, by
    have hm := DX.more (l := d.log ++ [⟨kind, n, k, v, errno⟩]) (lv' := .slice (some ⟨gg, 0, none⟩) (L + 1) cap1) (HX.out.on (box_below X (.cells c1 70)).drew) hg (fun b hb => by
      simp only [Value.ownBlock, Option.some.injEq] at hb
      subst hb
      rcases hat with h | h
      · exact .inl h
      · refine .inr ?_
        rw [h]
        show (X.alloc _).heap.size ≤ _
        rw [World.size_alloc]
        exact Nat.le_refl _) (by rw [List.length_append, List.length_singleton, flatE_snoc, ← hL, show (entE ⟨kind, n, k, v, errno⟩) = c1 from hc1.symm]; exact ho)
    exact ⟨hm.1, HFX.out.trans ((DFr.of sv lv (box_below X _).drew).trans hm.2)⟩⟩)
  have HKK := hide hk
  have HR := hide hr
  clear hX hr h hbx hL hk hc1 hvc hkc
  go_enter Tryz.func94, Tryz.ntmps94
  go_wp2_with fail
  rw [← HXX.out, ← HR.out]
  clear HXX
  go_cut [9] (fun S wc => S = .pointer (some ⟨r, 0, none⟩) ∧ Hid (∃ lv', DX g P { d with log := d.log ++ [⟨kind, n, k, v, errno⟩] } sv lv' wc ∧ DFr g sv lv sv lv' W wc))
  case first => as_aux_lemma =>
    refine wp_region_any (by kernel_rfl) ?_
    change wpAny _ _ _ _ _ _ _ (World.drew _)
    refine Gl.wpAny_takeOf 0 (some 11) (Value.pointer (some ⟨g, 0, none⟩)) rfl rfl (by kernel_rfl) (by kernel_rfl) (by kernel_rfl) (fun _ _ _ h => h) (Or.inl ⟨by rfl, ?_⟩) ?_
    · intro wx
      go_simp
    try simp only [Act.put, List.setIfInBounds_toArray, List.set_cons_zero, List.set_cons_succ]
    refine Gl.wpAny_takeOf 1 (some 12) (Value.pointer (some ⟨g, 0, none⟩)) rfl rfl (by kernel_rfl) (by kernel_rfl) (by kernel_rfl) (fun _ _ _ h => h) (Or.inl ⟨by rfl, ?_⟩) ?_
    · intro wx
      go_simp
    try simp only [Act.put, List.setIfInBounds_toArray, List.set_cons_zero, List.set_cons_succ]
    refine Gl.wpAny_takeOf 2 (some 13) (Value.pointer (some ⟨g, 0, none⟩)) rfl rfl (by kernel_rfl) (by kernel_rfl) (by kernel_rfl) (fun _ _ _ h => h) (Or.inl ⟨by rfl, ?_⟩) ?_
    · intro wx
      go_simp
    try simp only [Act.put, List.setIfInBounds_toArray, List.set_cons_zero, List.set_cons_succ]
    refine Gl.wpAny_takeOf 3 (some 14) (Value.pointer (some ⟨g, 876, none⟩)) rfl rfl (by kernel_rfl) (by kernel_rfl) (by kernel_rfl) (fun _ _ _ h => h) (Or.inl ⟨by rfl, ?_⟩) ?_
    · intro wx
      go_simp
    try simp only [Act.put, List.setIfInBounds_toArray, List.set_cons_zero, List.set_cons_succ]
    refine Gl.wpAny_takeOf 5 (some 16) (.int .i64 kind) rfl rfl (by kernel_rfl) (by kernel_rfl) (by kernel_rfl) (fun _ _ _ h => h) (Or.inl ⟨by rfl, ?_⟩) ?_
    · intro wx
      go_simp
    try simp only [Act.put, List.setIfInBounds_toArray, List.set_cons_zero, List.set_cons_succ]
    refine Gl.wpAny_takeOf 6 (some 17) (.int .i64 n) rfl rfl (by kernel_rfl) (by kernel_rfl) (by kernel_rfl) (fun _ _ _ h => h) (Or.inl ⟨by rfl, ?_⟩) ?_
    · intro wx
      go_simp
    try simp only [Act.put, List.setIfInBounds_toArray, List.set_cons_zero, List.set_cons_succ]
    refine Gl.wpAny_takeOf 7 (some 18) (Value.pointer (some ⟨g, 0, none⟩)) rfl rfl (by kernel_rfl) (by kernel_rfl) (by kernel_rfl) (fun _ _ _ h => h) (Or.inl ⟨by rfl, ?_⟩) ?_
    · intro wx
      go_simp
    try simp only [Act.put, List.setIfInBounds_toArray, List.set_cons_zero, List.set_cons_succ]
    refine Gl.wpAny_takeOf 8 (some 19) (.int .i64 n) rfl rfl (by kernel_rfl) (by kernel_rfl) (by kernel_rfl) (fun _ _ _ h => h) (Or.inl ⟨by rfl, ?_⟩) ?_
    · intro wx
      go_simp
    try simp only [Act.put, List.setIfInBounds_toArray, List.set_cons_zero, List.set_cons_succ]
    refine Gl.wpAny_takeOf 9 (some 20) (Value.pointer (some ⟨g, 0, none⟩)) rfl rfl (by kernel_rfl) (by kernel_rfl) (by kernel_rfl) (fun _ _ _ h => h) (Or.inl ⟨by rfl, ?_⟩) ?_
    · intro wx
      go_simp
    try simp only [Act.put, List.setIfInBounds_toArray, List.set_cons_zero, List.set_cons_succ]
    refine Gl.wpAny_takeOf 10 (some 21) (Value.pointer (some ⟨g, 783, none⟩)) rfl rfl (by kernel_rfl) (by kernel_rfl) (by kernel_rfl) (fun _ _ _ h => h) (Or.inl ⟨by rfl, ?_⟩) ?_
    · intro wx
      go_simp
    try simp only [Act.put, List.setIfInBounds_toArray, List.set_cons_zero, List.set_cons_succ]
    refine Gl.wpAny_takeOf 11 (some 22) (Value.pointer (some ⟨g, 783 + n * 31, none⟩)) rfl rfl (by kernel_rfl) (by kernel_rfl) (by kernel_rfl) (fun _ _ _ h => h) (Or.inl ⟨by rfl, ?_⟩) ?_
    · intro wx
      go_simp
    try simp only [Act.put, List.setIfInBounds_toArray, List.set_cons_zero, List.set_cons_succ]
    refine Gl.wpAny_takeOf 12 (some 23) (Value.pointer (some ⟨g, 783 + n * 31 + 1, none⟩)) rfl rfl (by kernel_rfl) (by kernel_rfl) (by kernel_rfl) (fun _ _ _ h => h) (Or.inl ⟨by rfl, ?_⟩) ?_
    · intro wx
      go_simp
    try simp only [Act.put, List.setIfInBounds_toArray, List.set_cons_zero, List.set_cons_succ]
    refine Gl.wpAny_takeOf 15 (some 26) (.int .i64 errno) rfl rfl (by kernel_rfl) (by kernel_rfl) (by kernel_rfl) (fun _ _ _ h => h) (Or.inl ⟨by rfl, ?_⟩) ?_
    · intro wx
      go_simp
    try simp only [Act.put, List.setIfInBounds_toArray, List.set_cons_zero, List.set_cons_succ]
    refine wpAny_three (i := 4) (j := 13) (k := 14) (by kernel_rfl) rfl rfl rfl rfl rfl rfl (fun K hK => ?_) (fun K hK => ?_) (fun K hK => ?_)
    · go_simp
      refine hK _ _ ?_
      clear hK K
      try simp only [Act.put, List.setIfInBounds_toArray, List.set_cons_zero, List.set_cons_succ]
      refine wpAny_two (i := 13) (j := 14) (by kernel_rfl) rfl rfl rfl rfl (fun K hK => ?_) (fun K hK => ?_)
      · refine wp_load_mid 52 (.tmp 23) rfl g (783 + n * 31 + 1) rfl kc.toList _ hrng Tryz.underlying52 rfl (by rw [hks]; exact size_call6) ?_
        rw [show kc.toList.toArray = kc from Array.toArray_toList]
        refine hK _ _ ?_
        clear hK K
        try simp only [Act.put, List.setIfInBounds_toArray, List.set_cons_zero, List.set_cons_succ]
        refine Gl.wpAny_only (i := 14) (by kernel_rfl) rfl rfl (fun K hK => ?_)
        refine wp_load_row 68 (.tmp 9) rfl r rfl 68 vc (0, 0) _ hrow Tryz.underlying68 rfl (by rw [hvs]; exact size_vals12) ?_
        refine hK _ _ ?_
        clear hK K
        try simp only [Act.put, List.setIfInBounds_toArray, List.set_cons_zero, List.set_cons_succ]
        refine Gl.wpAny_takeOf 16 (some 27) (.agg c1) rfl rfl (by kernel_rfl) (by kernel_rfl) (by kernel_rfl) (fun _ _ _ h => h) (Or.inl ⟨by rfl, ?_⟩) ?_
        · intro wx
          exact run_buildE (.tmp 16) (.tmp 17) (.tmp 24) (.tmp 25) (.tmp 26) (.int .i64 kind) (.int .i64 n) (.agg kc) (.agg vc) (.int .i64 errno) rfl rfl rfl rfl rfl rfl HB16
        try simp only [Act.put, List.setIfInBounds_toArray, List.set_cons_zero, List.set_cons_succ]
        refine Gl.wpAny_only (i := 17) (by kernel_rfl) rfl rfl (fun K hK => ?_)
        refine wp_buildEntry 27 rfl rfl HBS ?_
        refine hK _ _ ?_
        clear hK K
        try simp only [Act.put, List.setIfInBounds_toArray, List.set_cons_zero, List.set_cons_succ]
        refine Gl.wpAny_only (i := 18) (by kernel_rfl) rfl rfl (fun K hK => ?_)
        refine wp_append_lies _ _ _ _ rfl 0 70 inf _ 21 192 Tryz.underlying63 hi0 hz0 hz1 hz2 rfl (by omega) lv L (flatE d.log) rfl HOA.out ⟨X.heap.size, 0, none⟩ 1 1 c1.toList rfl HSZ.out (World.news_of_block HNB.out) HON.out (by omega) (by simp only [maxLen]; omega) (by omega) (by omega) (X.heap.size + 1) (by show (X.alloc _).heap.size = _; rw [World.size_alloc]) ?_
        intro gg cap1 w2 hown1 hgrow hat hltt
        have HG := hide (And.intro hown1 (And.intro hgrow (And.intro hat hltt)))
        obtain ⟨cE, fE⟩ := HCF.out w2 hgrow
        clear hown1 hgrow hat hltt
        refine hK _ _ ?_
        clear hK K
        try simp only [Act.put, List.setIfInBounds_toArray, List.set_cons_zero, List.set_cons_succ]
        refine Gl.wpAny_only (i := 19) (by kernel_rfl) rfl rfl (fun K hK => ?_)
        go_simp
        refine hK _ _ ?_
        clear hK K
        try simp only [Act.put, List.setIfInBounds_toArray, List.set_cons_zero, List.set_cons_succ]
        refine Gl.wpAny_only (i := 20) (by kernel_rfl) rfl rfl (fun K hK => ?_)
        go_simp
        refine hK _ _ ?_
        clear hK K
        try simp only [Act.put, List.setIfInBounds_toArray, List.set_cons_zero, List.set_cons_succ]
        refine Gl.wpAny_only (i := 21) (by kernel_rfl) rfl rfl (fun K hK => ?_)
        go_simp
        refine hK _ _ ?_
        clear hK K
        try simp only [Act.put, List.setIfInBounds_toArray, List.set_cons_zero, List.set_cons_succ]
        refine wpAny_done (by kernel_rfl) ?_ _
        go_wp2_with fail
        go_meet
        case rel => exact ⟨rfl, HFIN.out gg cap1 w2 HG.out.1 HG.out.2.1 HG.out.2.2.1⟩
      · refine wp_load_row 68 (.tmp 9) rfl r rfl 68 vc (0, 0) _ hrow Tryz.underlying68 rfl (by rw [hvs]; exact size_vals12) ?_
        refine hK _ _ ?_
        clear hK K
        try simp only [Act.put, List.setIfInBounds_toArray, List.set_cons_zero, List.set_cons_succ]
        refine Gl.wpAny_only (i := 13) (by kernel_rfl) rfl rfl (fun K hK => ?_)
        refine wp_load_mid 52 (.tmp 23) rfl g (783 + n * 31 + 1) rfl kc.toList _ hrng Tryz.underlying52 rfl (by rw [hks]; exact size_call6) ?_
        rw [show kc.toList.toArray = kc from Array.toArray_toList]
        refine hK _ _ ?_
        clear hK K
        try simp only [Act.put, List.setIfInBounds_toArray, List.set_cons_zero, List.set_cons_succ]
        refine Gl.wpAny_takeOf 16 (some 27) (.agg c1) rfl rfl (by kernel_rfl) (by kernel_rfl) (by kernel_rfl) (fun _ _ _ h => h) (Or.inl ⟨by rfl, ?_⟩) ?_
        · intro wx
          exact run_buildE (.tmp 16) (.tmp 17) (.tmp 24) (.tmp 25) (.tmp 26) (.int .i64 kind) (.int .i64 n) (.agg kc) (.agg vc) (.int .i64 errno) rfl rfl rfl rfl rfl rfl HB16
        try simp only [Act.put, List.setIfInBounds_toArray, List.set_cons_zero, List.set_cons_succ]
        refine Gl.wpAny_only (i := 17) (by kernel_rfl) rfl rfl (fun K hK => ?_)
        refine wp_buildEntry 27 rfl rfl HBS ?_
        refine hK _ _ ?_
        clear hK K
        try simp only [Act.put, List.setIfInBounds_toArray, List.set_cons_zero, List.set_cons_succ]
        refine Gl.wpAny_only (i := 18) (by kernel_rfl) rfl rfl (fun K hK => ?_)
        refine wp_append_lies _ _ _ _ rfl 0 70 inf _ 21 192 Tryz.underlying63 hi0 hz0 hz1 hz2 rfl (by omega) lv L (flatE d.log) rfl HOA.out ⟨X.heap.size, 0, none⟩ 1 1 c1.toList rfl HSZ.out (World.news_of_block HNB.out) HON.out (by omega) (by simp only [maxLen]; omega) (by omega) (by omega) (X.heap.size + 1) (by show (X.alloc _).heap.size = _; rw [World.size_alloc]) ?_
        intro gg cap1 w2 hown1 hgrow hat hltt
        have HG := hide (And.intro hown1 (And.intro hgrow (And.intro hat hltt)))
        obtain ⟨cE, fE⟩ := HCF.out w2 hgrow
        clear hown1 hgrow hat hltt
        refine hK _ _ ?_
        clear hK K
        try simp only [Act.put, List.setIfInBounds_toArray, List.set_cons_zero, List.set_cons_succ]
        refine Gl.wpAny_only (i := 19) (by kernel_rfl) rfl rfl (fun K hK => ?_)
        go_simp
        refine hK _ _ ?_
        clear hK K
        try simp only [Act.put, List.setIfInBounds_toArray, List.set_cons_zero, List.set_cons_succ]
        refine Gl.wpAny_only (i := 20) (by kernel_rfl) rfl rfl (fun K hK => ?_)
        go_simp
        refine hK _ _ ?_
        clear hK K
        try simp only [Act.put, List.setIfInBounds_toArray, List.set_cons_zero, List.set_cons_succ]
        refine Gl.wpAny_only (i := 21) (by kernel_rfl) rfl rfl (fun K hK => ?_)
        go_simp
        refine hK _ _ ?_
        clear hK K
        try simp only [Act.put, List.setIfInBounds_toArray, List.set_cons_zero, List.set_cons_succ]
        refine wpAny_done (by kernel_rfl) ?_ _
        go_wp2_with fail
        go_meet
        case rel => exact ⟨rfl, HFIN.out gg cap1 w2 HG.out.1 HG.out.2.1 HG.out.2.2.1⟩
    · refine wp_load_mid 52 (.tmp 23) rfl g (783 + n * 31 + 1) rfl kc.toList _ hrng Tryz.underlying52 rfl (by rw [hks]; exact size_call6) ?_
      rw [show kc.toList.toArray = kc from Array.toArray_toList]
      refine hK _ _ ?_
      clear hK K
      try simp only [Act.put, List.setIfInBounds_toArray, List.set_cons_zero, List.set_cons_succ]
      refine wpAny_two (i := 4) (j := 14) (by kernel_rfl) rfl rfl rfl rfl (fun K hK => ?_) (fun K hK => ?_)
      · go_simp
        refine hK _ _ ?_
        clear hK K
        try simp only [Act.put, List.setIfInBounds_toArray, List.set_cons_zero, List.set_cons_succ]
        refine Gl.wpAny_only (i := 14) (by kernel_rfl) rfl rfl (fun K hK => ?_)
        refine wp_load_row 68 (.tmp 9) rfl r rfl 68 vc (0, 0) _ hrow Tryz.underlying68 rfl (by rw [hvs]; exact size_vals12) ?_
        refine hK _ _ ?_
        clear hK K
        try simp only [Act.put, List.setIfInBounds_toArray, List.set_cons_zero, List.set_cons_succ]
        refine Gl.wpAny_takeOf 16 (some 27) (.agg c1) rfl rfl (by kernel_rfl) (by kernel_rfl) (by kernel_rfl) (fun _ _ _ h => h) (Or.inl ⟨by rfl, ?_⟩) ?_
        · intro wx
          exact run_buildE (.tmp 16) (.tmp 17) (.tmp 24) (.tmp 25) (.tmp 26) (.int .i64 kind) (.int .i64 n) (.agg kc) (.agg vc) (.int .i64 errno) rfl rfl rfl rfl rfl rfl HB16
        try simp only [Act.put, List.setIfInBounds_toArray, List.set_cons_zero, List.set_cons_succ]
        refine Gl.wpAny_only (i := 17) (by kernel_rfl) rfl rfl (fun K hK => ?_)
        refine wp_buildEntry 27 rfl rfl HBS ?_
        refine hK _ _ ?_
        clear hK K
        try simp only [Act.put, List.setIfInBounds_toArray, List.set_cons_zero, List.set_cons_succ]
        refine Gl.wpAny_only (i := 18) (by kernel_rfl) rfl rfl (fun K hK => ?_)
        refine wp_append_lies _ _ _ _ rfl 0 70 inf _ 21 192 Tryz.underlying63 hi0 hz0 hz1 hz2 rfl (by omega) lv L (flatE d.log) rfl HOA.out ⟨X.heap.size, 0, none⟩ 1 1 c1.toList rfl HSZ.out (World.news_of_block HNB.out) HON.out (by omega) (by simp only [maxLen]; omega) (by omega) (by omega) (X.heap.size + 1) (by show (X.alloc _).heap.size = _; rw [World.size_alloc]) ?_
        intro gg cap1 w2 hown1 hgrow hat hltt
        have HG := hide (And.intro hown1 (And.intro hgrow (And.intro hat hltt)))
        obtain ⟨cE, fE⟩ := HCF.out w2 hgrow
        clear hown1 hgrow hat hltt
        refine hK _ _ ?_
        clear hK K
        try simp only [Act.put, List.setIfInBounds_toArray, List.set_cons_zero, List.set_cons_succ]
        refine Gl.wpAny_only (i := 19) (by kernel_rfl) rfl rfl (fun K hK => ?_)
        go_simp
        refine hK _ _ ?_
        clear hK K
        try simp only [Act.put, List.setIfInBounds_toArray, List.set_cons_zero, List.set_cons_succ]
        refine Gl.wpAny_only (i := 20) (by kernel_rfl) rfl rfl (fun K hK => ?_)
        go_simp
        refine hK _ _ ?_
        clear hK K
        try simp only [Act.put, List.setIfInBounds_toArray, List.set_cons_zero, List.set_cons_succ]
        refine Gl.wpAny_only (i := 21) (by kernel_rfl) rfl rfl (fun K hK => ?_)
        go_simp
        refine hK _ _ ?_
        clear hK K
        try simp only [Act.put, List.setIfInBounds_toArray, List.set_cons_zero, List.set_cons_succ]
        refine wpAny_done (by kernel_rfl) ?_ _
        go_wp2_with fail
        go_meet
        case rel => exact ⟨rfl, HFIN.out gg cap1 w2 HG.out.1 HG.out.2.1 HG.out.2.2.1⟩
      · refine wp_load_row 68 (.tmp 9) rfl r rfl 68 vc (0, 0) _ hrow Tryz.underlying68 rfl (by rw [hvs]; exact size_vals12) ?_
        refine hK _ _ ?_
        clear hK K
        try simp only [Act.put, List.setIfInBounds_toArray, List.set_cons_zero, List.set_cons_succ]
        refine Gl.wpAny_takeOf 16 (some 27) (.agg c1) rfl rfl (by kernel_rfl) (by kernel_rfl) (by kernel_rfl) (fun _ _ _ h => h) (Or.inl ⟨by rfl, ?_⟩) ?_
        · intro wx
          exact run_buildE (.tmp 16) (.tmp 17) (.tmp 24) (.tmp 25) (.tmp 26) (.int .i64 kind) (.int .i64 n) (.agg kc) (.agg vc) (.int .i64 errno) rfl rfl rfl rfl rfl rfl HB16
        try simp only [Act.put, List.setIfInBounds_toArray, List.set_cons_zero, List.set_cons_succ]
        refine wpAny_two (i := 4) (j := 17) (by kernel_rfl) rfl rfl rfl rfl (fun K hK => ?_) (fun K hK => ?_)
        · go_simp
          refine hK _ _ ?_
          clear hK K
          try simp only [Act.put, List.setIfInBounds_toArray, List.set_cons_zero, List.set_cons_succ]
          refine Gl.wpAny_only (i := 17) (by kernel_rfl) rfl rfl (fun K hK => ?_)
          refine wp_buildEntry 27 rfl rfl HBS ?_
          refine hK _ _ ?_
          clear hK K
          try simp only [Act.put, List.setIfInBounds_toArray, List.set_cons_zero, List.set_cons_succ]
          refine Gl.wpAny_only (i := 18) (by kernel_rfl) rfl rfl (fun K hK => ?_)
          refine wp_append_lies _ _ _ _ rfl 0 70 inf _ 21 192 Tryz.underlying63 hi0 hz0 hz1 hz2 rfl (by omega) lv L (flatE d.log) rfl HOA.out ⟨X.heap.size, 0, none⟩ 1 1 c1.toList rfl HSZ.out (World.news_of_block HNB.out) HON.out (by omega) (by simp only [maxLen]; omega) (by omega) (by omega) (X.heap.size + 1) (by show (X.alloc _).heap.size = _; rw [World.size_alloc]) ?_
          intro gg cap1 w2 hown1 hgrow hat hltt
          have HG := hide (And.intro hown1 (And.intro hgrow (And.intro hat hltt)))
          obtain ⟨cE, fE⟩ := HCF.out w2 hgrow
          clear hown1 hgrow hat hltt
          refine hK _ _ ?_
          clear hK K
          try simp only [Act.put, List.setIfInBounds_toArray, List.set_cons_zero, List.set_cons_succ]
          refine Gl.wpAny_only (i := 19) (by kernel_rfl) rfl rfl (fun K hK => ?_)
          go_simp
          refine hK _ _ ?_
          clear hK K
          try simp only [Act.put, List.setIfInBounds_toArray, List.set_cons_zero, List.set_cons_succ]
          refine Gl.wpAny_only (i := 20) (by kernel_rfl) rfl rfl (fun K hK => ?_)
          go_simp
          refine hK _ _ ?_
          clear hK K
          try simp only [Act.put, List.setIfInBounds_toArray, List.set_cons_zero, List.set_cons_succ]
          refine Gl.wpAny_only (i := 21) (by kernel_rfl) rfl rfl (fun K hK => ?_)
          go_simp
          refine hK _ _ ?_
          clear hK K
          try simp only [Act.put, List.setIfInBounds_toArray, List.set_cons_zero, List.set_cons_succ]
          refine wpAny_done (by kernel_rfl) ?_ _
          go_wp2_with fail
          go_meet
          case rel => exact ⟨rfl, HFIN.out gg cap1 w2 HG.out.1 HG.out.2.1 HG.out.2.2.1⟩
        · refine wp_buildEntry 27 rfl rfl HBS ?_
          refine hK _ _ ?_
          clear hK K
          try simp only [Act.put, List.setIfInBounds_toArray, List.set_cons_zero, List.set_cons_succ]
          refine Gl.wpAny_only (i := 4) (by kernel_rfl) rfl rfl (fun K hK => ?_)
          go_simp
          refine hK _ _ ?_
          clear hK K
          try simp only [Act.put, List.setIfInBounds_toArray, List.set_cons_zero, List.set_cons_succ]
          refine Gl.wpAny_only (i := 18) (by kernel_rfl) rfl rfl (fun K hK => ?_)
          refine wp_append_lies _ _ _ _ rfl 0 70 inf _ 21 192 Tryz.underlying63 hi0 hz0 hz1 hz2 rfl (by omega) lv L (flatE d.log) rfl HOA.out ⟨X.heap.size, 0, none⟩ 1 1 c1.toList rfl HSZ.out (World.news_of_block HNB.out) HON.out (by omega) (by simp only [maxLen]; omega) (by omega) (by omega) (X.heap.size + 1) (by show (X.alloc _).heap.size = _; rw [World.size_alloc]) ?_
          intro gg cap1 w2 hown1 hgrow hat hltt
          have HG := hide (And.intro hown1 (And.intro hgrow (And.intro hat hltt)))
          obtain ⟨cE, fE⟩ := HCF.out w2 hgrow
          clear hown1 hgrow hat hltt
          refine hK _ _ ?_
          clear hK K
          try simp only [Act.put, List.setIfInBounds_toArray, List.set_cons_zero, List.set_cons_succ]
          refine Gl.wpAny_only (i := 19) (by kernel_rfl) rfl rfl (fun K hK => ?_)
          go_simp
          refine hK _ _ ?_
          clear hK K
          try simp only [Act.put, List.setIfInBounds_toArray, List.set_cons_zero, List.set_cons_succ]
          refine Gl.wpAny_only (i := 20) (by kernel_rfl) rfl rfl (fun K hK => ?_)
          go_simp
          refine hK _ _ ?_
          clear hK K
          try simp only [Act.put, List.setIfInBounds_toArray, List.set_cons_zero, List.set_cons_succ]
          refine Gl.wpAny_only (i := 21) (by kernel_rfl) rfl rfl (fun K hK => ?_)
          go_simp
          refine hK _ _ ?_
          clear hK K
          try simp only [Act.put, List.setIfInBounds_toArray, List.set_cons_zero, List.set_cons_succ]
          refine wpAny_done (by kernel_rfl) ?_ _
          go_wp2_with fail
          go_meet
          case rel => exact ⟨rfl, HFIN.out gg cap1 w2 HG.out.1 HG.out.2.1 HG.out.2.2.1⟩
    · refine wp_load_row 68 (.tmp 9) rfl r rfl 68 vc (0, 0) _ hrow Tryz.underlying68 rfl (by rw [hvs]; exact size_vals12) ?_
      refine hK _ _ ?_
      clear hK K
      try simp only [Act.put, List.setIfInBounds_toArray, List.set_cons_zero, List.set_cons_succ]
      refine wpAny_two (i := 4) (j := 13) (by kernel_rfl) rfl rfl rfl rfl (fun K hK => ?_) (fun K hK => ?_)
      · go_simp
        refine hK _ _ ?_
        clear hK K
        try simp only [Act.put, List.setIfInBounds_toArray, List.set_cons_zero, List.set_cons_succ]
        refine Gl.wpAny_only (i := 13) (by kernel_rfl) rfl rfl (fun K hK => ?_)
        refine wp_load_mid 52 (.tmp 23) rfl g (783 + n * 31 + 1) rfl kc.toList _ hrng Tryz.underlying52 rfl (by rw [hks]; exact size_call6) ?_
        rw [show kc.toList.toArray = kc from Array.toArray_toList]
        refine hK _ _ ?_
        clear hK K
        try simp only [Act.put, List.setIfInBounds_toArray, List.set_cons_zero, List.set_cons_succ]
        refine Gl.wpAny_takeOf 16 (some 27) (.agg c1) rfl rfl (by kernel_rfl) (by kernel_rfl) (by kernel_rfl) (fun _ _ _ h => h) (Or.inl ⟨by rfl, ?_⟩) ?_
        · intro wx
          exact run_buildE (.tmp 16) (.tmp 17) (.tmp 24) (.tmp 25) (.tmp 26) (.int .i64 kind) (.int .i64 n) (.agg kc) (.agg vc) (.int .i64 errno) rfl rfl rfl rfl rfl rfl HB16
        try simp only [Act.put, List.setIfInBounds_toArray, List.set_cons_zero, List.set_cons_succ]
        refine Gl.wpAny_only (i := 17) (by kernel_rfl) rfl rfl (fun K hK => ?_)
        refine wp_buildEntry 27 rfl rfl HBS ?_
        refine hK _ _ ?_
        clear hK K
        try simp only [Act.put, List.setIfInBounds_toArray, List.set_cons_zero, List.set_cons_succ]
        refine Gl.wpAny_only (i := 18) (by kernel_rfl) rfl rfl (fun K hK => ?_)
        refine wp_append_lies _ _ _ _ rfl 0 70 inf _ 21 192 Tryz.underlying63 hi0 hz0 hz1 hz2 rfl (by omega) lv L (flatE d.log) rfl HOA.out ⟨X.heap.size, 0, none⟩ 1 1 c1.toList rfl HSZ.out (World.news_of_block HNB.out) HON.out (by omega) (by simp only [maxLen]; omega) (by omega) (by omega) (X.heap.size + 1) (by show (X.alloc _).heap.size = _; rw [World.size_alloc]) ?_
        intro gg cap1 w2 hown1 hgrow hat hltt
        have HG := hide (And.intro hown1 (And.intro hgrow (And.intro hat hltt)))
        obtain ⟨cE, fE⟩ := HCF.out w2 hgrow
        clear hown1 hgrow hat hltt
        refine hK _ _ ?_
        clear hK K
        try simp only [Act.put, List.setIfInBounds_toArray, List.set_cons_zero, List.set_cons_succ]
        refine Gl.wpAny_only (i := 19) (by kernel_rfl) rfl rfl (fun K hK => ?_)
        go_simp
        refine hK _ _ ?_
        clear hK K
        try simp only [Act.put, List.setIfInBounds_toArray, List.set_cons_zero, List.set_cons_succ]
        refine Gl.wpAny_only (i := 20) (by kernel_rfl) rfl rfl (fun K hK => ?_)
        go_simp
        refine hK _ _ ?_
        clear hK K
        try simp only [Act.put, List.setIfInBounds_toArray, List.set_cons_zero, List.set_cons_succ]
        refine Gl.wpAny_only (i := 21) (by kernel_rfl) rfl rfl (fun K hK => ?_)
        go_simp
        refine hK _ _ ?_
        clear hK K
        try simp only [Act.put, List.setIfInBounds_toArray, List.set_cons_zero, List.set_cons_succ]
        refine wpAny_done (by kernel_rfl) ?_ _
        go_wp2_with fail
        go_meet
        case rel => exact ⟨rfl, HFIN.out gg cap1 w2 HG.out.1 HG.out.2.1 HG.out.2.2.1⟩
      · refine wp_load_mid 52 (.tmp 23) rfl g (783 + n * 31 + 1) rfl kc.toList _ hrng Tryz.underlying52 rfl (by rw [hks]; exact size_call6) ?_
        rw [show kc.toList.toArray = kc from Array.toArray_toList]
        refine hK _ _ ?_
        clear hK K
        try simp only [Act.put, List.setIfInBounds_toArray, List.set_cons_zero, List.set_cons_succ]
        refine Gl.wpAny_takeOf 16 (some 27) (.agg c1) rfl rfl (by kernel_rfl) (by kernel_rfl) (by kernel_rfl) (fun _ _ _ h => h) (Or.inl ⟨by rfl, ?_⟩) ?_
        · intro wx
          exact run_buildE (.tmp 16) (.tmp 17) (.tmp 24) (.tmp 25) (.tmp 26) (.int .i64 kind) (.int .i64 n) (.agg kc) (.agg vc) (.int .i64 errno) rfl rfl rfl rfl rfl rfl HB16
        try simp only [Act.put, List.setIfInBounds_toArray, List.set_cons_zero, List.set_cons_succ]
        refine wpAny_two (i := 4) (j := 17) (by kernel_rfl) rfl rfl rfl rfl (fun K hK => ?_) (fun K hK => ?_)
        · go_simp
          refine hK _ _ ?_
          clear hK K
          try simp only [Act.put, List.setIfInBounds_toArray, List.set_cons_zero, List.set_cons_succ]
          refine Gl.wpAny_only (i := 17) (by kernel_rfl) rfl rfl (fun K hK => ?_)
          refine wp_buildEntry 27 rfl rfl HBS ?_
          refine hK _ _ ?_
          clear hK K
          try simp only [Act.put, List.setIfInBounds_toArray, List.set_cons_zero, List.set_cons_succ]
          refine Gl.wpAny_only (i := 18) (by kernel_rfl) rfl rfl (fun K hK => ?_)
          refine wp_append_lies _ _ _ _ rfl 0 70 inf _ 21 192 Tryz.underlying63 hi0 hz0 hz1 hz2 rfl (by omega) lv L (flatE d.log) rfl HOA.out ⟨X.heap.size, 0, none⟩ 1 1 c1.toList rfl HSZ.out (World.news_of_block HNB.out) HON.out (by omega) (by simp only [maxLen]; omega) (by omega) (by omega) (X.heap.size + 1) (by show (X.alloc _).heap.size = _; rw [World.size_alloc]) ?_
          intro gg cap1 w2 hown1 hgrow hat hltt
          have HG := hide (And.intro hown1 (And.intro hgrow (And.intro hat hltt)))
          obtain ⟨cE, fE⟩ := HCF.out w2 hgrow
          clear hown1 hgrow hat hltt
          refine hK _ _ ?_
          clear hK K
          try simp only [Act.put, List.setIfInBounds_toArray, List.set_cons_zero, List.set_cons_succ]
          refine Gl.wpAny_only (i := 19) (by kernel_rfl) rfl rfl (fun K hK => ?_)
          go_simp
          refine hK _ _ ?_
          clear hK K
          try simp only [Act.put, List.setIfInBounds_toArray, List.set_cons_zero, List.set_cons_succ]
          refine Gl.wpAny_only (i := 20) (by kernel_rfl) rfl rfl (fun K hK => ?_)
          go_simp
          refine hK _ _ ?_
          clear hK K
          try simp only [Act.put, List.setIfInBounds_toArray, List.set_cons_zero, List.set_cons_succ]
          refine Gl.wpAny_only (i := 21) (by kernel_rfl) rfl rfl (fun K hK => ?_)
          go_simp
          refine hK _ _ ?_
          clear hK K
          try simp only [Act.put, List.setIfInBounds_toArray, List.set_cons_zero, List.set_cons_succ]
          refine wpAny_done (by kernel_rfl) ?_ _
          go_wp2_with fail
          go_meet
          case rel => exact ⟨rfl, HFIN.out gg cap1 w2 HG.out.1 HG.out.2.1 HG.out.2.2.1⟩
        · refine wp_buildEntry 27 rfl rfl HBS ?_
          refine hK _ _ ?_
          clear hK K
          try simp only [Act.put, List.setIfInBounds_toArray, List.set_cons_zero, List.set_cons_succ]
          refine Gl.wpAny_only (i := 4) (by kernel_rfl) rfl rfl (fun K hK => ?_)
          go_simp
          refine hK _ _ ?_
          clear hK K
          try simp only [Act.put, List.setIfInBounds_toArray, List.set_cons_zero, List.set_cons_succ]
          refine Gl.wpAny_only (i := 18) (by kernel_rfl) rfl rfl (fun K hK => ?_)
          refine wp_append_lies _ _ _ _ rfl 0 70 inf _ 21 192 Tryz.underlying63 hi0 hz0 hz1 hz2 rfl (by omega) lv L (flatE d.log) rfl HOA.out ⟨X.heap.size, 0, none⟩ 1 1 c1.toList rfl HSZ.out (World.news_of_block HNB.out) HON.out (by omega) (by simp only [maxLen]; omega) (by omega) (by omega) (X.heap.size + 1) (by show (X.alloc _).heap.size = _; rw [World.size_alloc]) ?_
          intro gg cap1 w2 hown1 hgrow hat hltt
          have HG := hide (And.intro hown1 (And.intro hgrow (And.intro hat hltt)))
          obtain ⟨cE, fE⟩ := HCF.out w2 hgrow
          clear hown1 hgrow hat hltt
          refine hK _ _ ?_
          clear hK K
          try simp only [Act.put, List.setIfInBounds_toArray, List.set_cons_zero, List.set_cons_succ]
          refine Gl.wpAny_only (i := 19) (by kernel_rfl) rfl rfl (fun K hK => ?_)
          go_simp
          refine hK _ _ ?_
          clear hK K
          try simp only [Act.put, List.setIfInBounds_toArray, List.set_cons_zero, List.set_cons_succ]
          refine Gl.wpAny_only (i := 20) (by kernel_rfl) rfl rfl (fun K hK => ?_)
          go_simp
          refine hK _ _ ?_
          clear hK K
          try simp only [Act.put, List.setIfInBounds_toArray, List.set_cons_zero, List.set_cons_succ]
          refine Gl.wpAny_only (i := 21) (by kernel_rfl) rfl rfl (fun K hK => ?_)
          go_simp
          refine hK _ _ ?_
          clear hK K
          try simp only [Act.put, List.setIfInBounds_toArray, List.set_cons_zero, List.set_cons_succ]
          refine wpAny_done (by kernel_rfl) ?_ _
          go_wp2_with fail
          go_meet
          case rel => exact ⟨rfl, HFIN.out gg cap1 w2 HG.out.1 HG.out.2.1 HG.out.2.2.1⟩
  case rest => as_aux_lemma =>
    obtain ⟨rfl, HC⟩ := hcut
    obtain ⟨lv', hD, hF⟩ := HC.out
    obtain ⟨se, hse⟩ : ∃ l, l = (d.T n).seals := ⟨_, rfl⟩
    obtain ⟨log1, hlog1⟩ : ∃ l, l = d.log ++ [⟨kind, n, k, v, errno⟩] := ⟨_, rfl⟩
    obtain ⟨L1, hL1⟩ : ∃ m, m = se.length := ⟨_, rfl⟩
    have HD : Hid (DX g P ⟨d.T, (se.take 0).foldl freeM d.mem, log1⟩ sv lv' wc) := hide (by rw [hlog1]; exact hD)
    have HF := hide hF
    have HSE := hide hse
    have HL1 := hide hL1
    have HS64 := hide hs64.2
    have hL4 : L1 ≤ 4 := by rw [hL1, hse]; exact hs64.1
    have HEN := hide (show dend n kind errno v d = DWS.put ⟨d.T, se.foldl freeM d.mem, log1⟩ n (dIdle (if kind = 3 then 6 else 0)) by rw [hse, hlog1, HKK.out]; exact dend_eq _ _ _ _ _)
    clear hD hF HC hse hlog1 hL1 hrow hrng hvs hks HB16 cl fl cl3 HCF HFIN HOA HNB HON HSZ HBS HX HFX hi0 hz0 hz1 hz2 hs64 HC1 hgr hgX hrX HR
    go_wp2_with fail
    go_loopw [10] (fun I w' => ∃ i : Nat, i ≤ L1 ∧ I = .int .i64 i ∧ Hid (DX g P ⟨d.T, (se.take i).foldl freeM d.mem, log1⟩ sv lv' w') ∧ Hid (DFr g sv lv sv lv' W w')) (fun I _ => L1 - (intOf I).toNat)
    case atStart => exact ⟨0, by omega, rfl, HD, HF⟩
    case round =>
      obtain ⟨i, hi, rfl, HC, HG⟩ := hrel
      clear HD HF
      obtain ⟨o, cap, c30, hsc⟩ := HC.out.sealc n hn
      simp only at c30 hsc
      rw [← HSE.out, ← HL1.out] at c30
      by_cases hlt : i < L1
      · as_aux_lemma =>
        have hlt' : i < se.length := by rw [← HL1.out]; exact hlt
        have hlt2 : i < (d.T n).seals.length := by rw [← HSE.out]; exact hlt'
        obtain ⟨b, rfl, ci⟩ := hsc i hlt2
        obtain ⟨a, ha⟩ : ∃ a, a = (d.T n).seals[i] := ⟨_, rfl⟩
        have ha64 : a < 18446744073709551616 := by rw [ha]; exact HS64.out _ (List.getElem_mem _)
        rw [← ha] at ci
        have HST := hide (show (se.take (i + 1)).foldl freeM d.mem = freeM ((se.take i).foldl freeM d.mem) a by rw [take_succ_foldl _ _ _ hlt', ha]; simp only [HSE.out])
        have k1 : (0 : Int) ≤ i := by omega
        have k2 : (i : Int) < L1 := by omega
        replace HC := hide (HC.out.on (Below.refl _ wr).drew)
        replace HG := hide (HG.out.trans (DFr.of sv lv' (Below.refl _ wr).drew))
        obtain ⟨m0, hm0⟩ : ∃ m, m = (se.take i).foldl freeM d.mem := ⟨_, rfl⟩
        rw [← hm0] at HC HST
        have HM := fun X (h : Vr.IsD (LD g P d.T sv lv') m0 X) => (show Calls Tryz.prog 117 #[.pointer (some ⟨g, 3, none⟩), .int .u64 a] X fun e w' => (∃ v, e = .returned v) ∧ Vr.IsD (LD g P d.T sv lv') (freeM m0 a) w' ∧ X.grownBy w' (some g) from Vr.dfree_any h a ha64)
        clear ha hm0 hsc ha64 HSE HL1 hlt' hlt2
        go_wp2_with fail
        refine wp_region_any (by kernel_rfl) ?_
        change wpAny _ _ _ _ _ _ _ (World.drew _)
        refine Gl.wpAny_takeOf 0 (some 44) (Value.pointer (some ⟨g, 0, none⟩)) rfl rfl (by kernel_rfl) (by kernel_rfl) (by kernel_rfl) (fun _ _ _ h => h) (Or.inl ⟨by rfl, ?_⟩) ?_
        · intro wx
          go_simp
        try simp only [Act.put, List.setIfInBounds_toArray, List.set_cons_zero, List.set_cons_succ]
        refine Gl.wpAny_takeOf 1 (some 45) (Value.pointer (some ⟨g, 0, none⟩)) rfl rfl (by kernel_rfl) (by kernel_rfl) (by kernel_rfl) (fun _ _ _ h => h) (Or.inl ⟨by rfl, ?_⟩) ?_
        · intro wx
          go_simp
        try simp only [Act.put, List.setIfInBounds_toArray, List.set_cons_zero, List.set_cons_succ]
        refine Gl.wpAny_takeOf 2 (some 46) (Value.pointer (some ⟨g, 3, none⟩)) rfl rfl (by kernel_rfl) (by kernel_rfl) (by kernel_rfl) (fun _ _ _ h => h) (Or.inl ⟨by rfl, ?_⟩) ?_
        · intro wx
          go_simp
        try simp only [Act.put, List.setIfInBounds_toArray, List.set_cons_zero, List.set_cons_succ]
        refine Gl.wpAny_takeOf 3 (some 47) (Value.pointer (some ⟨g, 0, none⟩)) rfl rfl (by kernel_rfl) (by kernel_rfl) (by kernel_rfl) (fun _ _ _ h => h) (Or.inl ⟨by rfl, ?_⟩) ?_
        · intro wx
          go_simp
        try simp only [Act.put, List.setIfInBounds_toArray, List.set_cons_zero, List.set_cons_succ]
        refine Gl.wpAny_takeOf 4 (some 48) (.int .i64 n) rfl rfl (by kernel_rfl) (by kernel_rfl) (by kernel_rfl) (fun _ _ _ h => h) (Or.inl ⟨by rfl, ?_⟩) ?_
        · intro wx
          go_simp
        try simp only [Act.put, List.setIfInBounds_toArray, List.set_cons_zero, List.set_cons_succ]
        refine Gl.wpAny_takeOf 5 (some 49) (Value.pointer (some ⟨g, 0, none⟩)) rfl rfl (by kernel_rfl) (by kernel_rfl) (by kernel_rfl) (fun _ _ _ h => h) (Or.inl ⟨by rfl, ?_⟩) ?_
        · intro wx
          go_simp
        try simp only [Act.put, List.setIfInBounds_toArray, List.set_cons_zero, List.set_cons_succ]
        refine Gl.wpAny_takeOf 6 (some 50) (Value.pointer (some ⟨g, 783, none⟩)) rfl rfl (by kernel_rfl) (by kernel_rfl) (by kernel_rfl) (fun _ _ _ h => h) (Or.inl ⟨by rfl, ?_⟩) ?_
        · intro wx
          go_simp
        try simp only [Act.put, List.setIfInBounds_toArray, List.set_cons_zero, List.set_cons_succ]
        refine Gl.wpAny_takeOf 7 (some 51) (Value.pointer (some ⟨g, 783 + n * 31, none⟩)) rfl rfl (by kernel_rfl) (by kernel_rfl) (by kernel_rfl) (fun _ _ _ h => h) (Or.inl ⟨by rfl, ?_⟩) ?_
        · intro wx
          go_simp
        try simp only [Act.put, List.setIfInBounds_toArray, List.set_cons_zero, List.set_cons_succ]
        refine Gl.wpAny_takeOf 8 (some 52) (Value.pointer (some ⟨g, 783 + n * 31 + 30, none⟩)) rfl rfl (by kernel_rfl) (by kernel_rfl) (by kernel_rfl) (fun _ _ _ h => h) (Or.inl ⟨by rfl, ?_⟩) ?_
        · intro wx
          go_simp
        try simp only [Act.put, List.setIfInBounds_toArray, List.set_cons_zero, List.set_cons_succ]
        refine Gl.wpAny_takeOf 10 (some 54) (.int .i64 i) rfl rfl (by kernel_rfl) (by kernel_rfl) (by kernel_rfl) (fun _ _ _ h => h) (Or.inl ⟨by rfl, ?_⟩) ?_
        · intro wx
          go_simp
        try simp only [Act.put, List.setIfInBounds_toArray, List.set_cons_zero, List.set_cons_succ]
        refine Gl.wpAny_only (i := 9) (by kernel_rfl) rfl rfl (fun K hK => ?_)
        go_simp
        refine hK _ _ ?_
        clear hK K
        try simp only [Act.put, List.setIfInBounds_toArray, List.set_cons_zero, List.set_cons_succ]
        refine Gl.wpAny_only (i := 11) (by kernel_rfl) rfl rfl (fun K hK => ?_)
        go_simp
        refine hK _ _ ?_
        clear hK K
        try simp only [Act.put, List.setIfInBounds_toArray, List.set_cons_zero, List.set_cons_succ]
        refine Gl.wpAny_only (i := 12) (by kernel_rfl) rfl rfl (fun K hK => ?_)
        go_simp
        refine hK _ _ ?_
        clear hK K
        try simp only [Act.put, List.setIfInBounds_toArray, List.set_cons_zero, List.set_cons_succ]
        refine Gl.wpAny_only (i := 13) (by kernel_rfl) rfl rfl (fun K hK => ?_)
        refine Gl.wp_callOf 117 #[.pointer (some ⟨g, 3, none⟩), .int .u64 a] (by kernel_rfl) (HM _ HC.out.mem) ?_
        rintro e w1 ⟨⟨v1, rfl⟩, hm1, hg1⟩
        have HD := hide (HC.out.memo hm1 hg1)
        have HF := hide (HG.out.trans (DFr.grown sv lv' hg1))
        clear hm1 hg1
        refine ⟨_, rfl, hK _ _ ?_⟩
        clear hK K
        try simp only [Act.put, List.setIfInBounds_toArray, List.set_cons_zero, List.set_cons_succ]
        refine wpAny_done (by kernel_rfl) ?_ _
        rw [← HST.out] at HD
        go_wp2
        go_round
        case rel => first | exact ⟨i + 1, by omega, by go_num, HD, HF⟩ | exact ⟨i + 1, by omega, by omega, HD, HF⟩
        case measure => simp [intOf]; omega
      · as_aux_lemma =>
        have hiL : i = L1 := by omega
        rw [show (se.take i).foldl freeM d.mem = se.foldl freeM d.mem by rw [hiL, HL1.out, List.take_length]] at HC
        have hge : ¬ (i : Int) < L1 := by omega
        obtain ⟨d1, hd1⟩ : ∃ d1 : DWS, d1 = ⟨d.T, se.foldl freeM d.mem, log1⟩ := ⟨_, rfl⟩
        rw [← hd1] at HC HEN
        clear hiL hd1 hsc HSE HL1 HS64 hlt
        obtain ⟨zt, hzt⟩ : ∃ z, z = zDT := ⟨_, rfl⟩
        have HZT := hide hzt
        have hth := HC.out.setTh n hn zt (by rw [hzt]; rfl) (dIdle 0) rfl (fun j hj => by rw [hzt]; exact zDT_at j hj)
        have HTH := hide hth.1
        have HFT := hide (HG.out.trans hth.2)
        clear hzt hth
        by_cases hk3 : kind = 3
        · have k3 : (kind : Int) = 3 := by omega
          have b3 : ((kind : Int) == 3) = true := by simpa using k3
          have HPH := hide (HTH.out.setPhase n 6 hn)
          rw [if_pos hk3] at HEN
          have cph := HTH.out.phase n hn
          have fph := HTH.out.fro (783 + n * 31)
          clear hk3
          go_wp2_with (first | (refine wpList_buildTo rfl 92 _ rfl (some 60) rfl zt (by rw [HZT.out]; kernel_rfl) ?_) | (refine wpList_store_mid (P := Tryz.prog) rfl 92 _ _ rfl g (783 + n * 31) zt rfl rfl (by intro j hj; exact ⟨by rw [HC.out.cell _ (by have h31 : j < 31 := (by rw [HZT.out] at hj; exact hj); omega) (.inr (by omega))]; rfl, HC.out.fro _⟩) (by rw [HZT.out]; exact size_rthread) (by rw [HZT.out]; exact zDT_one) ?_))
          go_end0
          refine ⟨rfl, _, lv', ?_, HFT.out.trans (DFr.set _ lv' _ _ _)⟩
          rw [HEN.out]
          have := HPH.out
          rwa [T_dput, dput_dput, show ({ dIdle 0 with phase := 6 } : DT) = dIdle 6 from rfl] at this
        · have k3 : ¬ (kind : Int) = 3 := by omega
          have b3 : ((kind : Int) == 3) = false := by simpa using k3
          rw [if_neg hk3] at HEN
          clear hk3
          go_wp2_with (first | (refine wpList_buildTo rfl 92 _ rfl (some 60) rfl zt (by rw [HZT.out]; kernel_rfl) ?_) | (refine wpList_store_mid (P := Tryz.prog) rfl 92 _ _ rfl g (783 + n * 31) zt rfl rfl (by intro j hj; exact ⟨by rw [HC.out.cell _ (by have h31 : j < 31 := (by rw [HZT.out] at hj; exact hj); omega) (.inr (by omega))]; rfl, HC.out.fro _⟩) (by rw [HZT.out]; exact size_rthread) (by rw [HZT.out]; exact zDT_one) ?_))
          go_end0
          refine ⟨rfl, _, lv', ?_, HFT.out⟩
          rw [HEN.out]
          exact HTH.out
end Go.Proofs.YtklibmijiecbfaaGreat

/- The document's done. -/
namespace Go.Proofs.YtklibmijiecbfaaGreat
open Go.RowKit Mm

theorem dend2 {g : Nat} {P : PV} {d : DWS} {sv : Nat → Value} {lv : Value} {W : World} (n : Nat) (hn : n < 3) (errno : Int) (h : DX g P d sv lv W) (hlog : d.log.length ≤ 1000000) (hs64 : SealOk (d.T n)) :
    Calls Tryz.prog 94 #[.pointer (some ⟨g, 0, none⟩), .int .i64 n, .int .i64 2, .int .i64 errno, .agg #[.string ⟨#[]⟩, .int .u32 0, .int .i64 0, .string ⟨#[]⟩, .int .u32 0, .int .i64 0, .string ⟨#[]⟩, .int .u32 0, .int .i64 0, .string ⟨#[]⟩, .int .u32 0, .int .i64 0]] W (DGoes g P (dend n 2 errno zeroVS d) sv lv W) :=
  dend_any n hn 2 errno zeroVS h hlog hs64
theorem dend3 {g : Nat} {P : PV} {d : DWS} {sv : Nat → Value} {lv : Value} {W : World} (n : Nat) (hn : n < 3) (h : DX g P d sv lv W) (hlog : d.log.length ≤ 1000000) (hs64 : SealOk (d.T n)) :
    Calls Tryz.prog 94 #[.pointer (some ⟨g, 0, none⟩), .int .i64 n, .int .i64 3, .int .i64 0, .agg #[.string ⟨#[]⟩, .int .u32 0, .int .i64 0, .string ⟨#[]⟩, .int .u32 0, .int .i64 0, .string ⟨#[]⟩, .int .u32 0, .int .i64 0, .string ⟨#[]⟩, .int .u32 0, .int .i64 0]] W (DGoes g P (dend n 3 0 zeroVS d) sv lv W) :=
  dend_any n hn 3 0 zeroVS h hlog hs64
theorem ddone_any {g : Nat} {P : PV} {d : DWS} {sv : Nat → Value} {lv : Value} {W : World} (n : Nat) (hn : n < 3) (a : ACT) (ha : actF a = 0) (next : Nat) (h : DX g P d sv lv W) (hlog : d.log.length ≤ 1000000) (hs64 : SealOk (d.T n)) :
    Calls Tryz.prog 67 #[.pointer (some ⟨g, 0, none⟩), .int .i64 n, actV a, .int .i64 next] W (DGoes g P (ddone n a next d) sv lv W) := by
  have j1 : (0 : Int) ≤ n := by omega
  have j2 : (n : Int) < 3 := by omega
  unfold actV
  obtain ⟨V, hV, hVb, hVs, hVc⟩ := one_box W #[.int .i64 a.kind, .int .i64 a.errno] 24
  have c0 := hVc 0
  have c1 := hVc 1
  simp only [List.getElem?_toArray, List.getElem?_cons_zero, List.getElem?_cons_succ] at c0 c1
  have hg := h.glt
  have HX := hide (h.on hVb)
  have HFV := hide (DFr.of (g := g) sv lv hVb)
  clear hVc hVs
  rcases act_cases ha with rfl | rfl | ⟨k, hk1, hk2, rfl⟩
  · have HS := hide ((h.setPhase n next hn).on (box_below _ (.cells #[.int .i64 1, .int .i64 0] 24)))
    have cp := HX.out.phase n hn
    have fp := HX.out.fro (783 + n * 31)
    have HD := hide (show ddone n ⟨1, 0⟩ next d = d.put n { d.T n with phase := next } from rfl)
    simp only at hV c0 c1 ⊢
    rw [HD.out]
    subst hV
    clear h
    go_enter Tryz.func67, Tryz.ntmps67
    go_wp2
    go_end0
    exact ⟨rfl, sv, lv, HS.out, (DFr.set sv lv _ _ _).trans (DFr.of sv lv (box_below _ _))⟩
  · have HE := dend3 n hn HX.out hlog hs64
    have HD := hide (show ddone n ⟨3, 0⟩ next d = dend n 3 0 zeroVS d from rfl)
    simp only at hV c0 c1 ⊢
    rw [HD.out]
    clear h hs64
    go_enter Tryz.func67, Tryz.ntmps67
    go_wp2_with fail
    rw [← hV]
    refine HE.mono ?_
    rintro e w' ⟨rfl, h1⟩
    go_wp2
    go_end0
    exact DGoes.from HFV.out ⟨rfl, h1⟩
  · have HE := dend2 n hn k HX.out hlog hs64
    have HD := hide (show ddone n ⟨2, (k : Int)⟩ next d = dend n 2 k zeroVS d from rfl)
    simp only at hV c0 c1 ⊢
    rw [HD.out]
    clear h hs64
    go_enter Tryz.func67, Tryz.ntmps67
    go_wp2_with fail
    rw [← hV]
    refine HE.mono ?_
    rintro e w' ⟨rfl, h1⟩
    go_wp2
    go_end0
    exact DGoes.from HFV.out ⟨rfl, h1⟩
end Go.Proofs.YtklibmijiecbfaaGreat

/- The document's Kind at every call and argument. -/
namespace Go.Proofs.YtklibmijiecbfaaGreat
open Go.RowKit

theorem kindIdx_0 (w : World) : (Instr.index 156 (.agg #[.string ⟨#[49, 49]⟩, .string ⟨#[49, 49]⟩, .string ⟨#[50, 49, 49]⟩, .string ⟨#[49]⟩, .string ⟨#[50]⟩, .string ⟨#[50, 50]⟩, .string ⟨#[49, 51]⟩, .string ⟨#[50, 50, 49]⟩, .string ⟨#[49, 49, 51, 49]⟩]) (.int .i64 0)).run Tryz.prog w = .ok (.string ⟨#[49, 49]⟩) w := by kernel_rfl
theorem kindIdx_1 (w : World) : (Instr.index 156 (.agg #[.string ⟨#[49, 49]⟩, .string ⟨#[49, 49]⟩, .string ⟨#[50, 49, 49]⟩, .string ⟨#[49]⟩, .string ⟨#[50]⟩, .string ⟨#[50, 50]⟩, .string ⟨#[49, 51]⟩, .string ⟨#[50, 50, 49]⟩, .string ⟨#[49, 49, 51, 49]⟩]) (.int .i64 1)).run Tryz.prog w = .ok (.string ⟨#[49, 49]⟩) w := by kernel_rfl
theorem kindIdx_2 (w : World) : (Instr.index 156 (.agg #[.string ⟨#[49, 49]⟩, .string ⟨#[49, 49]⟩, .string ⟨#[50, 49, 49]⟩, .string ⟨#[49]⟩, .string ⟨#[50]⟩, .string ⟨#[50, 50]⟩, .string ⟨#[49, 51]⟩, .string ⟨#[50, 50, 49]⟩, .string ⟨#[49, 49, 51, 49]⟩]) (.int .i64 2)).run Tryz.prog w = .ok (.string ⟨#[50, 49, 49]⟩) w := by kernel_rfl
theorem kindIdx_3 (w : World) : (Instr.index 156 (.agg #[.string ⟨#[49, 49]⟩, .string ⟨#[49, 49]⟩, .string ⟨#[50, 49, 49]⟩, .string ⟨#[49]⟩, .string ⟨#[50]⟩, .string ⟨#[50, 50]⟩, .string ⟨#[49, 51]⟩, .string ⟨#[50, 50, 49]⟩, .string ⟨#[49, 49, 51, 49]⟩]) (.int .i64 3)).run Tryz.prog w = .ok (.string ⟨#[49]⟩) w := by kernel_rfl
theorem kindIdx_4 (w : World) : (Instr.index 156 (.agg #[.string ⟨#[49, 49]⟩, .string ⟨#[49, 49]⟩, .string ⟨#[50, 49, 49]⟩, .string ⟨#[49]⟩, .string ⟨#[50]⟩, .string ⟨#[50, 50]⟩, .string ⟨#[49, 51]⟩, .string ⟨#[50, 50, 49]⟩, .string ⟨#[49, 49, 51, 49]⟩]) (.int .i64 4)).run Tryz.prog w = .ok (.string ⟨#[50]⟩) w := by kernel_rfl
theorem kindIdx_5 (w : World) : (Instr.index 156 (.agg #[.string ⟨#[49, 49]⟩, .string ⟨#[49, 49]⟩, .string ⟨#[50, 49, 49]⟩, .string ⟨#[49]⟩, .string ⟨#[50]⟩, .string ⟨#[50, 50]⟩, .string ⟨#[49, 51]⟩, .string ⟨#[50, 50, 49]⟩, .string ⟨#[49, 49, 51, 49]⟩]) (.int .i64 5)).run Tryz.prog w = .ok (.string ⟨#[50, 50]⟩) w := by kernel_rfl
theorem kindIdx_6 (w : World) : (Instr.index 156 (.agg #[.string ⟨#[49, 49]⟩, .string ⟨#[49, 49]⟩, .string ⟨#[50, 49, 49]⟩, .string ⟨#[49]⟩, .string ⟨#[50]⟩, .string ⟨#[50, 50]⟩, .string ⟨#[49, 51]⟩, .string ⟨#[50, 50, 49]⟩, .string ⟨#[49, 49, 51, 49]⟩]) (.int .i64 6)).run Tryz.prog w = .ok (.string ⟨#[49, 51]⟩) w := by kernel_rfl
theorem kindIdx_7 (w : World) : (Instr.index 156 (.agg #[.string ⟨#[49, 49]⟩, .string ⟨#[49, 49]⟩, .string ⟨#[50, 49, 49]⟩, .string ⟨#[49]⟩, .string ⟨#[50]⟩, .string ⟨#[50, 50]⟩, .string ⟨#[49, 51]⟩, .string ⟨#[50, 50, 49]⟩, .string ⟨#[49, 49, 51, 49]⟩]) (.int .i64 7)).run Tryz.prog w = .ok (.string ⟨#[50, 50, 49]⟩) w := by kernel_rfl
theorem kindIdx_8 (w : World) : (Instr.index 156 (.agg #[.string ⟨#[49, 49]⟩, .string ⟨#[49, 49]⟩, .string ⟨#[50, 49, 49]⟩, .string ⟨#[49]⟩, .string ⟨#[50]⟩, .string ⟨#[50, 50]⟩, .string ⟨#[49, 51]⟩, .string ⟨#[50, 50, 49]⟩, .string ⟨#[49, 49, 51, 49]⟩]) (.int .i64 8)).run Tryz.prog w = .ok (.string ⟨#[49, 49, 51, 49]⟩) w := by kernel_rfl
theorem kind_0_0 (w : World) : Calls Tryz.prog 44 #[.int .i64 0, .int .i64 0] w fun e w' => e = .returned (.int .i64 1) ∧ w' = w := by
  have hi := kindIdx_0
  go_enter Tryz.func44, Tryz.ntmps44
  go_wp2
  go_ret
  exact ⟨rfl, rfl⟩
theorem kind_0_1 (w : World) : Calls Tryz.prog 44 #[.int .i64 0, .int .i64 1] w fun e w' => e = .returned (.int .i64 1) ∧ w' = w := by
  have hi := kindIdx_0
  go_enter Tryz.func44, Tryz.ntmps44
  go_wp2
  go_ret
  exact ⟨rfl, rfl⟩
theorem kind_0_2 (w : World) : Calls Tryz.prog 44 #[.int .i64 0, .int .i64 2] w fun e w' => e = .returned (.int .i64 0) ∧ w' = w := by
  have hi := kindIdx_0
  go_enter Tryz.func44, Tryz.ntmps44
  go_wp2
  go_ret
  exact ⟨rfl, rfl⟩
theorem kind_0_3 (w : World) : Calls Tryz.prog 44 #[.int .i64 0, .int .i64 3] w fun e w' => e = .returned (.int .i64 0) ∧ w' = w := by
  have hi := kindIdx_0
  go_enter Tryz.func44, Tryz.ntmps44
  go_wp2
  go_ret
  exact ⟨rfl, rfl⟩
theorem kind_1_0 (w : World) : Calls Tryz.prog 44 #[.int .i64 1, .int .i64 0] w fun e w' => e = .returned (.int .i64 1) ∧ w' = w := by
  have hi := kindIdx_1
  go_enter Tryz.func44, Tryz.ntmps44
  go_wp2
  go_ret
  exact ⟨rfl, rfl⟩
theorem kind_1_1 (w : World) : Calls Tryz.prog 44 #[.int .i64 1, .int .i64 1] w fun e w' => e = .returned (.int .i64 1) ∧ w' = w := by
  have hi := kindIdx_1
  go_enter Tryz.func44, Tryz.ntmps44
  go_wp2
  go_ret
  exact ⟨rfl, rfl⟩
theorem kind_1_2 (w : World) : Calls Tryz.prog 44 #[.int .i64 1, .int .i64 2] w fun e w' => e = .returned (.int .i64 0) ∧ w' = w := by
  have hi := kindIdx_1
  go_enter Tryz.func44, Tryz.ntmps44
  go_wp2
  go_ret
  exact ⟨rfl, rfl⟩
theorem kind_1_3 (w : World) : Calls Tryz.prog 44 #[.int .i64 1, .int .i64 3] w fun e w' => e = .returned (.int .i64 0) ∧ w' = w := by
  have hi := kindIdx_1
  go_enter Tryz.func44, Tryz.ntmps44
  go_wp2
  go_ret
  exact ⟨rfl, rfl⟩
theorem kind_2_0 (w : World) : Calls Tryz.prog 44 #[.int .i64 2, .int .i64 0] w fun e w' => e = .returned (.int .i64 2) ∧ w' = w := by
  have hi := kindIdx_2
  go_enter Tryz.func44, Tryz.ntmps44
  go_wp2
  go_ret
  exact ⟨rfl, rfl⟩
theorem kind_2_1 (w : World) : Calls Tryz.prog 44 #[.int .i64 2, .int .i64 1] w fun e w' => e = .returned (.int .i64 1) ∧ w' = w := by
  have hi := kindIdx_2
  go_enter Tryz.func44, Tryz.ntmps44
  go_wp2
  go_ret
  exact ⟨rfl, rfl⟩
theorem kind_2_2 (w : World) : Calls Tryz.prog 44 #[.int .i64 2, .int .i64 2] w fun e w' => e = .returned (.int .i64 1) ∧ w' = w := by
  have hi := kindIdx_2
  go_enter Tryz.func44, Tryz.ntmps44
  go_wp2
  go_ret
  exact ⟨rfl, rfl⟩
theorem kind_2_3 (w : World) : Calls Tryz.prog 44 #[.int .i64 2, .int .i64 3] w fun e w' => e = .returned (.int .i64 0) ∧ w' = w := by
  have hi := kindIdx_2
  go_enter Tryz.func44, Tryz.ntmps44
  go_wp2
  go_ret
  exact ⟨rfl, rfl⟩
theorem kind_3_0 (w : World) : Calls Tryz.prog 44 #[.int .i64 3, .int .i64 0] w fun e w' => e = .returned (.int .i64 1) ∧ w' = w := by
  have hi := kindIdx_3
  go_enter Tryz.func44, Tryz.ntmps44
  go_wp2
  go_ret
  exact ⟨rfl, rfl⟩
theorem kind_3_1 (w : World) : Calls Tryz.prog 44 #[.int .i64 3, .int .i64 1] w fun e w' => e = .returned (.int .i64 0) ∧ w' = w := by
  have hi := kindIdx_3
  go_enter Tryz.func44, Tryz.ntmps44
  go_wp2
  go_ret
  exact ⟨rfl, rfl⟩
theorem kind_3_2 (w : World) : Calls Tryz.prog 44 #[.int .i64 3, .int .i64 2] w fun e w' => e = .returned (.int .i64 0) ∧ w' = w := by
  have hi := kindIdx_3
  go_enter Tryz.func44, Tryz.ntmps44
  go_wp2
  go_ret
  exact ⟨rfl, rfl⟩
theorem kind_3_3 (w : World) : Calls Tryz.prog 44 #[.int .i64 3, .int .i64 3] w fun e w' => e = .returned (.int .i64 0) ∧ w' = w := by
  have hi := kindIdx_3
  go_enter Tryz.func44, Tryz.ntmps44
  go_wp2
  go_ret
  exact ⟨rfl, rfl⟩
theorem kind_4_0 (w : World) : Calls Tryz.prog 44 #[.int .i64 4, .int .i64 0] w fun e w' => e = .returned (.int .i64 2) ∧ w' = w := by
  have hi := kindIdx_4
  go_enter Tryz.func44, Tryz.ntmps44
  go_wp2
  go_ret
  exact ⟨rfl, rfl⟩
theorem kind_4_1 (w : World) : Calls Tryz.prog 44 #[.int .i64 4, .int .i64 1] w fun e w' => e = .returned (.int .i64 0) ∧ w' = w := by
  have hi := kindIdx_4
  go_enter Tryz.func44, Tryz.ntmps44
  go_wp2
  go_ret
  exact ⟨rfl, rfl⟩
theorem kind_4_2 (w : World) : Calls Tryz.prog 44 #[.int .i64 4, .int .i64 2] w fun e w' => e = .returned (.int .i64 0) ∧ w' = w := by
  have hi := kindIdx_4
  go_enter Tryz.func44, Tryz.ntmps44
  go_wp2
  go_ret
  exact ⟨rfl, rfl⟩
theorem kind_4_3 (w : World) : Calls Tryz.prog 44 #[.int .i64 4, .int .i64 3] w fun e w' => e = .returned (.int .i64 0) ∧ w' = w := by
  have hi := kindIdx_4
  go_enter Tryz.func44, Tryz.ntmps44
  go_wp2
  go_ret
  exact ⟨rfl, rfl⟩
theorem kind_5_0 (w : World) : Calls Tryz.prog 44 #[.int .i64 5, .int .i64 0] w fun e w' => e = .returned (.int .i64 2) ∧ w' = w := by
  have hi := kindIdx_5
  go_enter Tryz.func44, Tryz.ntmps44
  go_wp2
  go_ret
  exact ⟨rfl, rfl⟩
theorem kind_5_1 (w : World) : Calls Tryz.prog 44 #[.int .i64 5, .int .i64 1] w fun e w' => e = .returned (.int .i64 2) ∧ w' = w := by
  have hi := kindIdx_5
  go_enter Tryz.func44, Tryz.ntmps44
  go_wp2
  go_ret
  exact ⟨rfl, rfl⟩
theorem kind_5_2 (w : World) : Calls Tryz.prog 44 #[.int .i64 5, .int .i64 2] w fun e w' => e = .returned (.int .i64 0) ∧ w' = w := by
  have hi := kindIdx_5
  go_enter Tryz.func44, Tryz.ntmps44
  go_wp2
  go_ret
  exact ⟨rfl, rfl⟩
theorem kind_5_3 (w : World) : Calls Tryz.prog 44 #[.int .i64 5, .int .i64 3] w fun e w' => e = .returned (.int .i64 0) ∧ w' = w := by
  have hi := kindIdx_5
  go_enter Tryz.func44, Tryz.ntmps44
  go_wp2
  go_ret
  exact ⟨rfl, rfl⟩
theorem kind_6_0 (w : World) : Calls Tryz.prog 44 #[.int .i64 6, .int .i64 0] w fun e w' => e = .returned (.int .i64 1) ∧ w' = w := by
  have hi := kindIdx_6
  go_enter Tryz.func44, Tryz.ntmps44
  go_wp2
  go_ret
  exact ⟨rfl, rfl⟩
theorem kind_6_1 (w : World) : Calls Tryz.prog 44 #[.int .i64 6, .int .i64 1] w fun e w' => e = .returned (.int .i64 3) ∧ w' = w := by
  have hi := kindIdx_6
  go_enter Tryz.func44, Tryz.ntmps44
  go_wp2
  go_ret
  exact ⟨rfl, rfl⟩
theorem kind_6_2 (w : World) : Calls Tryz.prog 44 #[.int .i64 6, .int .i64 2] w fun e w' => e = .returned (.int .i64 0) ∧ w' = w := by
  have hi := kindIdx_6
  go_enter Tryz.func44, Tryz.ntmps44
  go_wp2
  go_ret
  exact ⟨rfl, rfl⟩
theorem kind_6_3 (w : World) : Calls Tryz.prog 44 #[.int .i64 6, .int .i64 3] w fun e w' => e = .returned (.int .i64 0) ∧ w' = w := by
  have hi := kindIdx_6
  go_enter Tryz.func44, Tryz.ntmps44
  go_wp2
  go_ret
  exact ⟨rfl, rfl⟩
theorem kind_7_0 (w : World) : Calls Tryz.prog 44 #[.int .i64 7, .int .i64 0] w fun e w' => e = .returned (.int .i64 2) ∧ w' = w := by
  have hi := kindIdx_7
  go_enter Tryz.func44, Tryz.ntmps44
  go_wp2
  go_ret
  exact ⟨rfl, rfl⟩
theorem kind_7_1 (w : World) : Calls Tryz.prog 44 #[.int .i64 7, .int .i64 1] w fun e w' => e = .returned (.int .i64 2) ∧ w' = w := by
  have hi := kindIdx_7
  go_enter Tryz.func44, Tryz.ntmps44
  go_wp2
  go_ret
  exact ⟨rfl, rfl⟩
theorem kind_7_2 (w : World) : Calls Tryz.prog 44 #[.int .i64 7, .int .i64 2] w fun e w' => e = .returned (.int .i64 1) ∧ w' = w := by
  have hi := kindIdx_7
  go_enter Tryz.func44, Tryz.ntmps44
  go_wp2
  go_ret
  exact ⟨rfl, rfl⟩
theorem kind_7_3 (w : World) : Calls Tryz.prog 44 #[.int .i64 7, .int .i64 3] w fun e w' => e = .returned (.int .i64 0) ∧ w' = w := by
  have hi := kindIdx_7
  go_enter Tryz.func44, Tryz.ntmps44
  go_wp2
  go_ret
  exact ⟨rfl, rfl⟩
theorem kind_8_0 (w : World) : Calls Tryz.prog 44 #[.int .i64 8, .int .i64 0] w fun e w' => e = .returned (.int .i64 1) ∧ w' = w := by
  have hi := kindIdx_8
  go_enter Tryz.func44, Tryz.ntmps44
  go_wp2
  go_ret
  exact ⟨rfl, rfl⟩
theorem kind_8_1 (w : World) : Calls Tryz.prog 44 #[.int .i64 8, .int .i64 1] w fun e w' => e = .returned (.int .i64 1) ∧ w' = w := by
  have hi := kindIdx_8
  go_enter Tryz.func44, Tryz.ntmps44
  go_wp2
  go_ret
  exact ⟨rfl, rfl⟩
theorem kind_8_2 (w : World) : Calls Tryz.prog 44 #[.int .i64 8, .int .i64 2] w fun e w' => e = .returned (.int .i64 3) ∧ w' = w := by
  have hi := kindIdx_8
  go_enter Tryz.func44, Tryz.ntmps44
  go_wp2
  go_ret
  exact ⟨rfl, rfl⟩
theorem kind_8_3 (w : World) : Calls Tryz.prog 44 #[.int .i64 8, .int .i64 3] w fun e w' => e = .returned (.int .i64 1) ∧ w' = w := by
  have hi := kindIdx_8
  go_enter Tryz.func44, Tryz.ntmps44
  go_wp2
  go_ret
  exact ⟨rfl, rfl⟩
theorem dkind_any (i k : Nat) (hi : i < 9) (hk : k < 4) (w : World) : Calls Tryz.prog 44 #[.int .i64 i, .int .i64 k] w fun e w' => e = .returned (.int .i64 (kindAt i k)) ∧ w' = w := by
  match i, hi, k, hk with
  | 0, _, 0, _ => exact kind_0_0 w
  | 0, _, 1, _ => exact kind_0_1 w
  | 0, _, 2, _ => exact kind_0_2 w
  | 0, _, 3, _ => exact kind_0_3 w
  | 1, _, 0, _ => exact kind_1_0 w
  | 1, _, 1, _ => exact kind_1_1 w
  | 1, _, 2, _ => exact kind_1_2 w
  | 1, _, 3, _ => exact kind_1_3 w
  | 2, _, 0, _ => exact kind_2_0 w
  | 2, _, 1, _ => exact kind_2_1 w
  | 2, _, 2, _ => exact kind_2_2 w
  | 2, _, 3, _ => exact kind_2_3 w
  | 3, _, 0, _ => exact kind_3_0 w
  | 3, _, 1, _ => exact kind_3_1 w
  | 3, _, 2, _ => exact kind_3_2 w
  | 3, _, 3, _ => exact kind_3_3 w
  | 4, _, 0, _ => exact kind_4_0 w
  | 4, _, 1, _ => exact kind_4_1 w
  | 4, _, 2, _ => exact kind_4_2 w
  | 4, _, 3, _ => exact kind_4_3 w
  | 5, _, 0, _ => exact kind_5_0 w
  | 5, _, 1, _ => exact kind_5_1 w
  | 5, _, 2, _ => exact kind_5_2 w
  | 5, _, 3, _ => exact kind_5_3 w
  | 6, _, 0, _ => exact kind_6_0 w
  | 6, _, 1, _ => exact kind_6_1 w
  | 6, _, 2, _ => exact kind_6_2 w
  | 6, _, 3, _ => exact kind_6_3 w
  | 7, _, 0, _ => exact kind_7_0 w
  | 7, _, 1, _ => exact kind_7_1 w
  | 7, _, 2, _ => exact kind_7_2 w
  | 7, _, 3, _ => exact kind_7_3 w
  | 8, _, 0, _ => exact kind_8_0 w
  | 8, _, 1, _ => exact kind_8_1 w
  | 8, _, 2, _ => exact kind_8_2 w
  | 8, _, 3, _ => exact kind_8_3 w

end Go.Proofs.YtklibmijiecbfaaGreat

/- The document's pointer. -/
namespace Go.Proofs.YtklibmijiecbfaaGreat
open Go.RowKit Mm

theorem nextPt_hit {nr j : Nat} (hj : j < 4) (hk : 2 ≤ kindAt nr j) : nextPt nr j = j := by
  have r4 : List.range 4 = [0, 1, 2, 3] := rfl
  rcases show j = 0 ∨ j = 1 ∨ j = 2 ∨ j = 3 by omega with rfl | rfl | rfl | rfl <;> simp [nextPt, r4, List.filter, hk]
theorem nextPt_miss {nr j : Nat} (hj : j < 4) (hk : ¬ 2 ≤ kindAt nr j) : nextPt nr j = nextPt nr (j + 1) := by
  have r4 : List.range 4 = [0, 1, 2, 3] := rfl
  have hk' : kindAt nr j < 2 := by omega
  rcases show j = 0 ∨ j = 1 ∨ j = 2 ∨ j = 3 by omega with rfl | rfl | rfl | rfl <;> simp [nextPt, r4, List.filter, hk]
theorem nextPt_end (nr : Nat) : nextPt nr 4 = 4 := rfl
set_option maxHeartbeats 1000000 in
set_option maxRecDepth 20000 in
theorem pointer_any (c : KL) (hc : c.nr ≤ 8) (i : Nat) (hi : i ≤ 4) (W : World) : Calls Tryz.prog 66 #[klV c, .int .i64 i] W fun e w' => e = .returned (.int .i64 (nextPt c.nr i : Nat)) ∧ Below W.heap.size W w' := by
  obtain ⟨V, hV, hB, hVs, hx⟩ := one_box W (klC c) 52
  have c1 := hx 1
  obtain ⟨nr, hnr⟩ : ∃ n, n = c.nr := ⟨_, rfl⟩
  unfold klV klC
  unfold klC at hV hx c1
  simp only [List.getElem?_toArray, List.getElem?_cons_zero, List.getElem?_cons_succ] at c1
  rw [← hnr] at hc c1
  have HB := hide hB
  have n1 : (nr : Int) < 100 := by omega
  have n2 : ¬ (100 : Int) < nr := by omega
  have n3 : IntKind.wrap .i64 (nr : Int) = nr := by rw [IntKind.wrap_i64] <;> omega
  have n4 : min (nr : Int) 100 = nr := by omega
  have HK := fun k hk w => dkind_any nr k (by omega) hk w
  rw [← hnr]
  clear hx hB
  go_enter Tryz.func66, Tryz.ntmps66
  go_wp2
  rw [← hnr] at hV ⊢
  rw [← hV]
  clear hV hnr
  go_loopw [1] (fun I w' => ∃ j : Nat, j ≤ 4 ∧ I = .int .i64 j ∧ w' = V ∧ Hid (nextPt nr j = nextPt nr i)) (fun I _ => 4 - (intOf I).toNat)
  case atStart => exact ⟨i, hi, rfl, rfl, hide rfl⟩
  case round =>
    obtain ⟨j, hj, rfl, rfl, HN⟩ := hrel
    by_cases hlt : j < 4
    · have hl : (j : Int) < 4 := by omega
      have HKJ := fun w => HK j hlt w
      obtain ⟨kd, hkd⟩ : ∃ k, k = kindAt nr j := ⟨_, rfl⟩
      simp only [← hkd] at HKJ
      by_cases hk : 2 ≤ kd
      · have hk' : (1 : Int) < kd := by omega
        have HV := hide (show nextPt nr i = j by rw [← HN.out]; exact nextPt_hit hlt (by rw [← hkd]; exact hk))
        clear hkd
        go_wp2_with (go_at_call 44; refine (HKJ _).mono ?_; rintro e w' ⟨rfl, hw⟩; rw [hw]; clear hw w')
        go_ret
        exact ⟨by rw [HV.out]; rfl, HB.out⟩
      · have hk' : ¬ (1 : Int) < kd := by omega
        have HV := hide (show nextPt nr (j + 1) = nextPt nr i by rw [← HN.out]; exact (nextPt_miss hlt (by rw [← hkd]; exact hk)).symm)
        clear hkd
        go_wp2_with (go_at_call 44; refine (HKJ _).mono ?_; rintro e w' ⟨rfl, hw⟩; rw [hw]; clear hw w')
        go_round
        case rel => exact ⟨j + 1, by omega, by go_num, trivial, HV⟩
        case measure => simp [intOf]; omega
    · have hl : ¬ (j : Int) < 4 := by omega
      have h4 : j = 4 := by omega
      have HV := hide (show nextPt nr i = 4 by rw [← HN.out, h4]; exact nextPt_end nr)
      go_wp2
      go_ret
      exact ⟨by rw [HV.out]; rfl, HB.out⟩
end Go.Proofs.YtklibmijiecbfaaGreat
