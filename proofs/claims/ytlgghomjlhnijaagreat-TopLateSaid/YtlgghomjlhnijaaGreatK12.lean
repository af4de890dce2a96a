/- Copy. -/
import Derived.Test.YtlgghomjlhnijaaGreatK11
import Derived.Laws.StructEq
namespace Go.Proofs.YtlgghomjlhnijaaGreat
open Go.RowKit Mm

/-- In a region that draws: three operations may come up next. -/
theorem wpAny_three {P : Program} {md : Region.Mode} {ops : Array Oper} {Q : Exit → Act → World → Prop} {fuel : Nat} {listed : Array Bool} {a : Act} {w : World} {i j k : Nat} {o p q : Oper} (hr : Region.ready md ops listed = [i, j, k]) (ho : ops.toList[i]? = some o) (hg : o.guard = none) (hp : ops.toList[j]? = some p) (hgp : p.guard = none) (hq : ops.toList[k]? = some q) (hgq : q.guard = none)
    (h : ∀ K : Act → World → Prop, (∀ a w, wpAny P md ops Q fuel (listed.setIfInBounds i true) a w → K a w) → Oper.wp P o a w K Q)
    (h2 : ∀ K : Act → World → Prop, (∀ a w, wpAny P md ops Q fuel (listed.setIfInBounds j true) a w → K a w) → Oper.wp P p a w K Q)
    (h3 : ∀ K : Act → World → Prop, (∀ a w, wpAny P md ops Q fuel (listed.setIfInBounds k true) a w → K a w) → Oper.wp P q a w K Q) : wpAny P md ops Q (fuel + 1) listed a w := by
  refine wpAny_ready hr (by simp) ?_
  refine AllReady.cons (o := o) (by simpa using ho) (fun K hK => ?_) (AllReady.cons (o := p) (by simpa using hp) (fun K hK => ?_) (AllReady.cons (o := q) (by simpa using hq) (fun K hK => ?_) AllReady.nil))
  · have hw : Region.wanted o (yielded ops a.tmps) = true := by simp [Region.wanted, hg]
    rw [if_pos hw]
    exact h K hK
  · have hw : Region.wanted p (yielded ops a.tmps) = true := by simp [Region.wanted, hgp]
    rw [if_pos hw]
    exact h2 K hK
  · have hw : Region.wanted q (yielded ops a.tmps) = true := by simp [Region.wanted, hgq]
    rw [if_pos hw]
    exact h3 K hK
theorem wp_boxC {o : Oper} {a : Act} {w : World} {K : Act → World → Prop} {Q : Exit → Act → World → Prop} (t : TypeId) (x : Operand) (ho : o.op = .box t x) (d : Option Tmp) (hd : o.dst = d) (cells : Array Value) (hx : (a.eval x).cells = cells)
    (h : K (a.put d (.pointer (some ⟨w.heap.size, 0, none⟩))) (w.alloc (.cells cells t))) : o.wp Tryz.prog a w K Q := by
  subst hd hx
  unfold Oper.wp execOp
  simp only [ho, Sem.run_bind, Instr.box, newVar, newRow, run_newObj_alloc, Sem.run_pure, Result.andThen_ok]
  exact h
theorem size_threads : (Tryz.prog.info? 77).map (·.size) = some 87 := by kernel_rfl
/-- A copy of a ward, made behind W. -/
structure CWX (g' gm' : Nat) (P : PV) (s : WS) (lv' : Value) (W X : World) : Prop where
  ward : WX g' gm' P s lv' X
  below : Below W.heap.size W X
  g : W.heap.size ≤ g'
  m : W.heap.size ≤ gm'
  l : ∀ k, lv'.ownBlock = some k → W.heap.size ≤ k
theorem CWX.of {g gm : Nat} {P : PV} {s : WS} {lv : Value} {W Y1 Y2 : World} (h : WX g gm P s lv W) (hlog : s.log.length ≤ 1000000) (hM : IsM W.heap.size s.mem Y1) (hb1 : Below W.heap.size W Y1) (hR : Y2.heap[Y1.heap.size]? = some (.cells (flatE s.log).toArray 54 (0, 0))) (hb2 : Below Y1.heap.size Y1 Y2) :
    CWX Y2.heap.size W.heap.size P s (.slice (some ⟨Y1.heap.size, 0, none⟩) s.log.length s.log.length) W (Y2.alloc (.cells (VA 92 (cellW P W.heap.size s.T (.slice (some ⟨Y1.heap.size, 0, none⟩) s.log.length s.log.length))) 79)) := by
  have hml : W.heap.size < Y1.heap.size := (Array.getElem?_eq_some_iff.1 hM).1
  have hrl : Y1.heap.size < Y2.heap.size := (Array.getElem?_eq_some_iff.1 hR).1
  have hb := box_below Y2 (.cells (VA 92 (cellW P W.heap.size s.T (.slice (some ⟨Y1.heap.size, 0, none⟩) s.log.length s.log.length))) 79)
  have hall := below_next (below_next hb1 hb2) hb
  have hbd := h.bd
  refine ⟨⟨heap_alloc_new _ _, (hM.on hb2).on hb, ⟨flatE_len _, .inr ⟨Y1.heap.size, s.log.length, (flatE s.log).toArray, rfl, Nat.zero_le _, (hb.block _ hrl).trans hR, Nat.le_refl _, by unfold maxLen; omega, by rw [List.size_toArray]; exact flatE_len _, by rw [← flatE_len, List.take_length]⟩⟩, by omega, fun k hk => ?_, Nat.le_trans hbd hall.size, fun U hU hs => h.pol U (fun k hk _ _ _ => (hU k hk (by omega) (by omega) (fun e => ?_)).trans (hall.block k (by omega))) hs⟩, hall, by omega, Nat.le_refl _, fun k hk => ?_⟩
  · obtain rfl : Y1.heap.size = k := Option.some.inj hk
    omega
  · obtain rfl : Y1.heap.size = k := Option.some.inj e
    omega
  · obtain rfl : Y1.heap.size = k := Option.some.inj hk
    omega
set_option maxHeartbeats 8000000 in
set_option maxRecDepth 100000 in
theorem wcopy_any {g gm : Nat} {P : PV} {s : WS} {lv : Value} {W : World} (h : WX g gm P s lv W) (hlog : s.log.length ≤ 1000000) :
    Calls Tryz.prog 16 #[.pointer (some ⟨g, 0, none⟩)] W fun e w' => ∃ g' gm' lv', e = .returned (.pointer (some ⟨g', 0, none⟩)) ∧ CWX g' gm' P s lv' W w' := by
  have hX := h.on (Below.refl _ W).drew
  have HMM := wmem_any hX
  obtain ⟨L, hL⟩ : ∃ x, x = s.log.length := ⟨_, rfl⟩
  have HLL := hide hL
  have HFIN := hide (show ∀ Y1 Y2 : World, IsM W.drew.heap.size s.mem Y1 → Below W.drew.heap.size W.drew Y1 → Y2.heap[Y1.heap.size]? = some (.cells (flatE s.log).toArray 54 (0, 0)) → Below Y1.heap.size Y1 Y2 → ∃ g' gm' lv', Ending.returned (.pointer (some ⟨Y2.heap.size, 0, none⟩)) = Ending.returned (.pointer (some ⟨g', 0, none⟩)) ∧ CWX g' gm' P s lv' W (Y2.alloc (.cells (VA 92 (cellW P W.heap.size s.T (.slice (some ⟨Y1.heap.size, 0, none⟩) L L))) 79)) from fun Y1 Y2 a1 a2 a3 a4 => ⟨_, _, _, rfl, by rw [hL]; exact CWX.of h hlog a1 ⟨a2.os, a2.tape, a2.output, a2.size, a2.block⟩ a3 a4⟩)
  have c0 : W.drew.cell? ⟨g, 0, none⟩ = some (.slice P.oa P.p.rules.length P.cap) := h.cell 0 (by omega)
  have c1 : W.drew.cell? ⟨g, 1, none⟩ = some (.int .i64 P.p.els.kind) := h.cell 1 (by omega)
  have c2 : W.drew.cell? ⟨g, 2, none⟩ = some (.int .i64 P.p.els.errno) := h.cell 2 (by omega)
  obtain ⟨tl, hTL⟩ : ∃ t : List Value, t = List.ofFn (n := 87) fun i => cellT (s.T ((i : Nat) / 29)) ((i : Nat) % 29) := ⟨_, rfl⟩
  have htl : tl.length = 87 := by rw [hTL, List.length_ofFn]
  have HRG : ∀ X : World, WX g gm P s lv X → X.rangeAt g 4 tl := fun X hXX j v hv => by
    have hj : j < 87 := by rw [← htl]; exact (List.getElem?_eq_some_iff.1 hv).1
    rw [hTL, List.getElem?_ofFn, dif_pos hj] at hv
    rw [← hv, show 4 + j = 4 + j / 29 * 29 + j % 29 by omega]
    exact hXX.th (j / 29) (j % 29) (by omega) (by omega)
  have rg0 := HRG _ hX
  obtain ⟨zt, hZT⟩ : ∃ z : Nat → Array Value, z = fun y => VA 92 (cellW P W.heap.size s.T (.slice (some ⟨y, 0, none⟩) L L)) := ⟨_, rfl⟩
  have HFIN2 := HFIN.out
  replace HFIN := hide (show ∀ Y1 Y2 : World, IsM W.drew.heap.size s.mem Y1 → Below W.drew.heap.size W.drew Y1 → Y2.heap[Y1.heap.size]? = some (.cells (flatE s.log).toArray 54 (0, 0)) → Below Y1.heap.size Y1 Y2 → ∃ g' gm' lv', Ending.returned (.pointer (some ⟨Y2.heap.size, 0, none⟩)) = Ending.returned (.pointer (some ⟨g', 0, none⟩)) ∧ CWX g' gm' P s lv' W (Y2.alloc (.cells (zt Y1.heap.size) 79)) from fun Y1 Y2 a1 a2 a3 a4 => by rw [hZT]; exact HFIN2 Y1 Y2 a1 a2 a3 a4)
  obtain ⟨pn, hpn⟩ : ∃ m, m = P.p.rules.length := ⟨_, rfl⟩
  obtain ⟨pk, hpk⟩ : ∃ m, m = P.p.els.kind := ⟨_, rfl⟩
  obtain ⟨pe, hpe⟩ : ∃ m, m = P.p.els.errno := ⟨_, rfl⟩
  have HZT := hide (show zt = fun y => Array.ofFn (n := 92) fun i => if (i : Nat) = 0 then .slice P.oa pn P.cap else if (i : Nat) = 1 then .int .i64 pk else if (i : Nat) = 2 then .int .i64 pe else if (i : Nat) = 3 then .pointer (some ⟨W.heap.size, 0, none⟩) else if (i : Nat) < 91 then cellT (s.T (((i : Nat) - 4) / 29)) (((i : Nat) - 4) % 29) else .slice (some ⟨y, 0, none⟩) L L by
    rw [hZT]
    funext y
    rw [VA_eq]
    unfold VA0 cellW
    rw [hpn, hpk, hpe])
  rw [← hpn] at c0
  rw [← hpk] at c1
  rw [← hpe] at c2
  have HTL := hide hTL
  clear HFIN2 hZT hTL hL hpn hpk hpe h
  go_enter Tryz.func16, Tryz.ntmps16
  go_wp2_with fail
  refine wp_region_any (by kernel_rfl) ?_
  change wpAny _ _ _ _ _ _ _ (World.drew _)
  refine Gl.wpAny_takeOf 0 (some 3) (Value.pointer (some ⟨g, 0, none⟩)) rfl rfl (by kernel_rfl) (by kernel_rfl) (by kernel_rfl) (fun _ _ _ h => h) (Or.inl ⟨by rfl, ?_⟩) ?_
  · intro wx
    go_simp
  try simp only [Act.put, List.setIfInBounds_toArray, List.set_cons_zero, List.set_cons_succ]
  refine Gl.wpAny_takeOf 1 (some 4) (Value.pointer (some ⟨g, 0, none⟩)) rfl rfl (by kernel_rfl) (by kernel_rfl) (by kernel_rfl) (fun _ _ _ h => h) (Or.inl ⟨by rfl, ?_⟩) ?_
  · intro wx
    go_simp
  try simp only [Act.put, List.setIfInBounds_toArray, List.set_cons_zero, List.set_cons_succ]
  refine Gl.wpAny_takeOf 2 (some 5) (Value.pointer (some ⟨g, 0, none⟩)) rfl rfl (by kernel_rfl) (by kernel_rfl) (by kernel_rfl) (fun _ _ _ h => h) (Or.inl ⟨by rfl, ?_⟩) ?_
  · intro wx
    go_simp
  try simp only [Act.put, List.setIfInBounds_toArray, List.set_cons_zero, List.set_cons_succ]
  refine Gl.wpAny_takeOf 4 (some 7) (Value.pointer (some ⟨g, 0, none⟩)) rfl rfl (by kernel_rfl) (by kernel_rfl) (by kernel_rfl) (fun _ _ _ h => h) (Or.inl ⟨by rfl, ?_⟩) ?_
  · intro wx
    go_simp
  try simp only [Act.put, List.setIfInBounds_toArray, List.set_cons_zero, List.set_cons_succ]
  refine Gl.wpAny_takeOf 6 (some 9) (Value.pointer (some ⟨g, 0, none⟩)) rfl rfl (by kernel_rfl) (by kernel_rfl) (by kernel_rfl) (fun _ _ _ h => h) (Or.inl ⟨by rfl, ?_⟩) ?_
  · intro wx
    go_simp
  try simp only [Act.put, List.setIfInBounds_toArray, List.set_cons_zero, List.set_cons_succ]
  refine Gl.wpAny_takeOf 7 (some 10) (Value.pointer (some ⟨g, 0, none⟩)) rfl rfl (by kernel_rfl) (by kernel_rfl) (by kernel_rfl) (fun _ _ _ h => h) (Or.inl ⟨by rfl, ?_⟩) ?_
  · intro wx
    go_simp
  try simp only [Act.put, List.setIfInBounds_toArray, List.set_cons_zero, List.set_cons_succ]
  refine Gl.wpAny_takeOf 8 (some 11) (Value.pointer (some ⟨g, 4, none⟩)) rfl rfl (by kernel_rfl) (by kernel_rfl) (by kernel_rfl) (fun _ _ _ h => h) (Or.inl ⟨by rfl, ?_⟩) ?_
  · intro wx
    go_simp
  try simp only [Act.put, List.setIfInBounds_toArray, List.set_cons_zero, List.set_cons_succ]
  refine Gl.wpAny_takeOf 10 (some 13) (Value.pointer (some ⟨g, 0, none⟩)) rfl rfl (by kernel_rfl) (by kernel_rfl) (by kernel_rfl) (fun _ _ _ h => h) (Or.inl ⟨by rfl, ?_⟩) ?_
  · intro wx
    go_simp
  try simp only [Act.put, List.setIfInBounds_toArray, List.set_cons_zero, List.set_cons_succ]
  refine wpAny_three (i := 3) (j := 5) (k := 9) (by kernel_rfl) rfl rfl rfl rfl rfl rfl (fun K hK => ?_) (fun K hK => ?_) (fun K hK => ?_)
  · go_simp
    refine hK _ _ ?_
    clear hK K
    try simp only [Act.put, List.setIfInBounds_toArray, List.set_cons_zero, List.set_cons_succ]
    refine wpAny_two (i := 5) (j := 9) (by kernel_rfl) rfl rfl rfl rfl (fun K hK => ?_) (fun K hK => ?_)
    · go_simp
      go_at_call 11
      refine HMM.mono ?_
      rintro e Y1 ⟨rfl, hM1, hb1⟩
      have HX1 := hide (hX.on hb1)
      have HM1 := hide hM1
      have HB1 := hide hb1
      have c0 := keep_cell hb1 c0
      have c1 := keep_cell hb1 c1
      have c2 := keep_cell hb1 c2
      have rg1 := HRG Y1 HX1.out
      have HLG := wlog_any HX1.out hlog
      rw [← HLL.out] at HLG
      clear hM1 hb1
      go_simp
      refine hK _ _ ?_
      clear hK K
      try simp only [Act.put, List.setIfInBounds_toArray, List.set_cons_zero, List.set_cons_succ]
      refine wpAny_two (i := 9) (j := 11) (by kernel_rfl) rfl rfl rfl rfl (fun K hK => ?_) (fun K hK => ?_)
      · refine wp_load_mid (P := Tryz.prog) 77 _ rfl g 4 rfl tl _ rg1 Tryz.underlying77 rfl (by rw [htl]; exact size_threads) ?_
        refine hK _ _ ?_
        clear hK K
        try simp only [Act.put, List.setIfInBounds_toArray, List.set_cons_zero, List.set_cons_succ]
        refine Gl.wpAny_only (i := 11) (by kernel_rfl) rfl rfl (fun K hK => ?_)
        go_simp
        go_at_call 13
        refine HLG.mono ?_
        rintro e Y2 ⟨rfl, hR2, hb2⟩
        have HX2 := hide (HX1.out.on hb2)
        have HR2 := hide hR2
        have HB2 := hide hb2
        have c0 := keep_cell hb2 c0
        have c1 := keep_cell hb2 c1
        have c2 := keep_cell hb2 c2
        have rg2 := HRG Y2 HX2.out
        clear hR2 hb2
        go_simp
        refine hK _ _ ?_
        clear hK K
        try simp only [Act.put, List.setIfInBounds_toArray, List.set_cons_zero, List.set_cons_succ]
        refine Gl.wpAny_only (i := 12) (by kernel_rfl) rfl rfl (fun K hK => ?_)
        refine wp_buildC 79 _ rfl (some 15) rfl (zt Y1.heap.size) (by rw [HZT.out, HTL.out]; kernel_rfl) ?_
        refine hK _ _ ?_
        clear hK K
        try simp only [Act.put, List.setIfInBounds_toArray, List.set_cons_zero, List.set_cons_succ]
        refine Gl.wpAny_only (i := 13) (by kernel_rfl) rfl rfl (fun K hK => ?_)
        refine wp_boxC 79 _ rfl (some 16) rfl (zt Y1.heap.size) rfl ?_
        refine hK _ _ ?_
        clear hK K
        try simp only [Act.put, List.setIfInBounds_toArray, List.set_cons_zero, List.set_cons_succ]
        refine Gl.wpAny_only (i := 14) (by kernel_rfl) rfl rfl (fun K hK => ?_)
        go_simp
        refine hK _ _ ?_
        clear hK K
        try simp only [Act.put, List.setIfInBounds_toArray, List.set_cons_zero, List.set_cons_succ]
        refine wpAny_done (by kernel_rfl) ?_ _
        go_wp2
        go_ret
        exact HFIN.out Y1 Y2 HM1.out HB1.out HR2.out HB2.out
      · go_simp
        go_at_call 13
        refine HLG.mono ?_
        rintro e Y2 ⟨rfl, hR2, hb2⟩
        have HX2 := hide (HX1.out.on hb2)
        have HR2 := hide hR2
        have HB2 := hide hb2
        have c0 := keep_cell hb2 c0
        have c1 := keep_cell hb2 c1
        have c2 := keep_cell hb2 c2
        have rg2 := HRG Y2 HX2.out
        clear hR2 hb2
        go_simp
        refine hK _ _ ?_
        clear hK K
        try simp only [Act.put, List.setIfInBounds_toArray, List.set_cons_zero, List.set_cons_succ]
        refine Gl.wpAny_only (i := 9) (by kernel_rfl) rfl rfl (fun K hK => ?_)
        refine wp_load_mid (P := Tryz.prog) 77 _ rfl g 4 rfl tl _ rg2 Tryz.underlying77 rfl (by rw [htl]; exact size_threads) ?_
        refine hK _ _ ?_
        clear hK K
        try simp only [Act.put, List.setIfInBounds_toArray, List.set_cons_zero, List.set_cons_succ]
        refine Gl.wpAny_only (i := 12) (by kernel_rfl) rfl rfl (fun K hK => ?_)
        refine wp_buildC 79 _ rfl (some 15) rfl (zt Y1.heap.size) (by rw [HZT.out, HTL.out]; kernel_rfl) ?_
        refine hK _ _ ?_
        clear hK K
        try simp only [Act.put, List.setIfInBounds_toArray, List.set_cons_zero, List.set_cons_succ]
        refine Gl.wpAny_only (i := 13) (by kernel_rfl) rfl rfl (fun K hK => ?_)
        refine wp_boxC 79 _ rfl (some 16) rfl (zt Y1.heap.size) rfl ?_
        refine hK _ _ ?_
        clear hK K
        try simp only [Act.put, List.setIfInBounds_toArray, List.set_cons_zero, List.set_cons_succ]
        refine Gl.wpAny_only (i := 14) (by kernel_rfl) rfl rfl (fun K hK => ?_)
        go_simp
        refine hK _ _ ?_
        clear hK K
        try simp only [Act.put, List.setIfInBounds_toArray, List.set_cons_zero, List.set_cons_succ]
        refine wpAny_done (by kernel_rfl) ?_ _
        go_wp2
        go_ret
        exact HFIN.out Y1 Y2 HM1.out HB1.out HR2.out HB2.out
    · refine wp_load_mid (P := Tryz.prog) 77 _ rfl g 4 rfl tl _ rg0 Tryz.underlying77 rfl (by rw [htl]; exact size_threads) ?_
      refine hK _ _ ?_
      clear hK K
      try simp only [Act.put, List.setIfInBounds_toArray, List.set_cons_zero, List.set_cons_succ]
      refine Gl.wpAny_only (i := 5) (by kernel_rfl) rfl rfl (fun K hK => ?_)
      go_simp
      go_at_call 11
      refine HMM.mono ?_
      rintro e Y1 ⟨rfl, hM1, hb1⟩
      have HX1 := hide (hX.on hb1)
      have HM1 := hide hM1
      have HB1 := hide hb1
      have c0 := keep_cell hb1 c0
      have c1 := keep_cell hb1 c1
      have c2 := keep_cell hb1 c2
      have rg1 := HRG Y1 HX1.out
      have HLG := wlog_any HX1.out hlog
      rw [← HLL.out] at HLG
      clear hM1 hb1
      go_simp
      refine hK _ _ ?_
      clear hK K
      try simp only [Act.put, List.setIfInBounds_toArray, List.set_cons_zero, List.set_cons_succ]
      refine Gl.wpAny_only (i := 11) (by kernel_rfl) rfl rfl (fun K hK => ?_)
      go_simp
      go_at_call 13
      refine HLG.mono ?_
      rintro e Y2 ⟨rfl, hR2, hb2⟩
      have HX2 := hide (HX1.out.on hb2)
      have HR2 := hide hR2
      have HB2 := hide hb2
      have c0 := keep_cell hb2 c0
      have c1 := keep_cell hb2 c1
      have c2 := keep_cell hb2 c2
      have rg2 := HRG Y2 HX2.out
      clear hR2 hb2
      go_simp
      refine hK _ _ ?_
      clear hK K
      try simp only [Act.put, List.setIfInBounds_toArray, List.set_cons_zero, List.set_cons_succ]
      refine Gl.wpAny_only (i := 12) (by kernel_rfl) rfl rfl (fun K hK => ?_)
      refine wp_buildC 79 _ rfl (some 15) rfl (zt Y1.heap.size) (by rw [HZT.out, HTL.out]; kernel_rfl) ?_
      refine hK _ _ ?_
      clear hK K
      try simp only [Act.put, List.setIfInBounds_toArray, List.set_cons_zero, List.set_cons_succ]
      refine Gl.wpAny_only (i := 13) (by kernel_rfl) rfl rfl (fun K hK => ?_)
      refine wp_boxC 79 _ rfl (some 16) rfl (zt Y1.heap.size) rfl ?_
      refine hK _ _ ?_
      clear hK K
      try simp only [Act.put, List.setIfInBounds_toArray, List.set_cons_zero, List.set_cons_succ]
      refine Gl.wpAny_only (i := 14) (by kernel_rfl) rfl rfl (fun K hK => ?_)
      go_simp
      refine hK _ _ ?_
      clear hK K
      try simp only [Act.put, List.setIfInBounds_toArray, List.set_cons_zero, List.set_cons_succ]
      refine wpAny_done (by kernel_rfl) ?_ _
      go_wp2
      go_ret
      exact HFIN.out Y1 Y2 HM1.out HB1.out HR2.out HB2.out
  · go_simp
    go_at_call 11
    refine HMM.mono ?_
    rintro e Y1 ⟨rfl, hM1, hb1⟩
    have HX1 := hide (hX.on hb1)
    have HM1 := hide hM1
    have HB1 := hide hb1
    have c0 := keep_cell hb1 c0
    have c1 := keep_cell hb1 c1
    have c2 := keep_cell hb1 c2
    have rg1 := HRG Y1 HX1.out
    have HLG := wlog_any HX1.out hlog
    rw [← HLL.out] at HLG
    clear hM1 hb1
    go_simp
    refine hK _ _ ?_
    clear hK K
    try simp only [Act.put, List.setIfInBounds_toArray, List.set_cons_zero, List.set_cons_succ]
    refine wpAny_three (i := 3) (j := 9) (k := 11) (by kernel_rfl) rfl rfl rfl rfl rfl rfl (fun K hK => ?_) (fun K hK => ?_) (fun K hK => ?_)
    · go_simp
      refine hK _ _ ?_
      clear hK K
      try simp only [Act.put, List.setIfInBounds_toArray, List.set_cons_zero, List.set_cons_succ]
      refine wpAny_two (i := 9) (j := 11) (by kernel_rfl) rfl rfl rfl rfl (fun K hK => ?_) (fun K hK => ?_)
      · refine wp_load_mid (P := Tryz.prog) 77 _ rfl g 4 rfl tl _ rg1 Tryz.underlying77 rfl (by rw [htl]; exact size_threads) ?_
        refine hK _ _ ?_
        clear hK K
        try simp only [Act.put, List.setIfInBounds_toArray, List.set_cons_zero, List.set_cons_succ]
        refine Gl.wpAny_only (i := 11) (by kernel_rfl) rfl rfl (fun K hK => ?_)
        go_simp
        go_at_call 13
        refine HLG.mono ?_
        rintro e Y2 ⟨rfl, hR2, hb2⟩
        have HX2 := hide (HX1.out.on hb2)
        have HR2 := hide hR2
        have HB2 := hide hb2
        have c0 := keep_cell hb2 c0
        have c1 := keep_cell hb2 c1
        have c2 := keep_cell hb2 c2
        have rg2 := HRG Y2 HX2.out
        clear hR2 hb2
        go_simp
        refine hK _ _ ?_
        clear hK K
        try simp only [Act.put, List.setIfInBounds_toArray, List.set_cons_zero, List.set_cons_succ]
        refine Gl.wpAny_only (i := 12) (by kernel_rfl) rfl rfl (fun K hK => ?_)
        refine wp_buildC 79 _ rfl (some 15) rfl (zt Y1.heap.size) (by rw [HZT.out, HTL.out]; kernel_rfl) ?_
        refine hK _ _ ?_
        clear hK K
        try simp only [Act.put, List.setIfInBounds_toArray, List.set_cons_zero, List.set_cons_succ]
        refine Gl.wpAny_only (i := 13) (by kernel_rfl) rfl rfl (fun K hK => ?_)
        refine wp_boxC 79 _ rfl (some 16) rfl (zt Y1.heap.size) rfl ?_
        refine hK _ _ ?_
        clear hK K
        try simp only [Act.put, List.setIfInBounds_toArray, List.set_cons_zero, List.set_cons_succ]
        refine Gl.wpAny_only (i := 14) (by kernel_rfl) rfl rfl (fun K hK => ?_)
        go_simp
        refine hK _ _ ?_
        clear hK K
        try simp only [Act.put, List.setIfInBounds_toArray, List.set_cons_zero, List.set_cons_succ]
        refine wpAny_done (by kernel_rfl) ?_ _
        go_wp2
        go_ret
        exact HFIN.out Y1 Y2 HM1.out HB1.out HR2.out HB2.out
      · go_simp
        go_at_call 13
        refine HLG.mono ?_
        rintro e Y2 ⟨rfl, hR2, hb2⟩
        have HX2 := hide (HX1.out.on hb2)
        have HR2 := hide hR2
        have HB2 := hide hb2
        have c0 := keep_cell hb2 c0
        have c1 := keep_cell hb2 c1
        have c2 := keep_cell hb2 c2
        have rg2 := HRG Y2 HX2.out
        clear hR2 hb2
        go_simp
        refine hK _ _ ?_
        clear hK K
        try simp only [Act.put, List.setIfInBounds_toArray, List.set_cons_zero, List.set_cons_succ]
        refine Gl.wpAny_only (i := 9) (by kernel_rfl) rfl rfl (fun K hK => ?_)
        refine wp_load_mid (P := Tryz.prog) 77 _ rfl g 4 rfl tl _ rg2 Tryz.underlying77 rfl (by rw [htl]; exact size_threads) ?_
        refine hK _ _ ?_
        clear hK K
        try simp only [Act.put, List.setIfInBounds_toArray, List.set_cons_zero, List.set_cons_succ]
        refine Gl.wpAny_only (i := 12) (by kernel_rfl) rfl rfl (fun K hK => ?_)
        refine wp_buildC 79 _ rfl (some 15) rfl (zt Y1.heap.size) (by rw [HZT.out, HTL.out]; kernel_rfl) ?_
        refine hK _ _ ?_
        clear hK K
        try simp only [Act.put, List.setIfInBounds_toArray, List.set_cons_zero, List.set_cons_succ]
        refine Gl.wpAny_only (i := 13) (by kernel_rfl) rfl rfl (fun K hK => ?_)
        refine wp_boxC 79 _ rfl (some 16) rfl (zt Y1.heap.size) rfl ?_
        refine hK _ _ ?_
        clear hK K
        try simp only [Act.put, List.setIfInBounds_toArray, List.set_cons_zero, List.set_cons_succ]
        refine Gl.wpAny_only (i := 14) (by kernel_rfl) rfl rfl (fun K hK => ?_)
        go_simp
        refine hK _ _ ?_
        clear hK K
        try simp only [Act.put, List.setIfInBounds_toArray, List.set_cons_zero, List.set_cons_succ]
        refine wpAny_done (by kernel_rfl) ?_ _
        go_wp2
        go_ret
        exact HFIN.out Y1 Y2 HM1.out HB1.out HR2.out HB2.out
    · refine wp_load_mid (P := Tryz.prog) 77 _ rfl g 4 rfl tl _ rg1 Tryz.underlying77 rfl (by rw [htl]; exact size_threads) ?_
      refine hK _ _ ?_
      clear hK K
      try simp only [Act.put, List.setIfInBounds_toArray, List.set_cons_zero, List.set_cons_succ]
      refine wpAny_two (i := 3) (j := 11) (by kernel_rfl) rfl rfl rfl rfl (fun K hK => ?_) (fun K hK => ?_)
      · go_simp
        refine hK _ _ ?_
        clear hK K
        try simp only [Act.put, List.setIfInBounds_toArray, List.set_cons_zero, List.set_cons_succ]
        refine Gl.wpAny_only (i := 11) (by kernel_rfl) rfl rfl (fun K hK => ?_)
        go_simp
        go_at_call 13
        refine HLG.mono ?_
        rintro e Y2 ⟨rfl, hR2, hb2⟩
        have HX2 := hide (HX1.out.on hb2)
        have HR2 := hide hR2
        have HB2 := hide hb2
        have c0 := keep_cell hb2 c0
        have c1 := keep_cell hb2 c1
        have c2 := keep_cell hb2 c2
        have rg2 := HRG Y2 HX2.out
        clear hR2 hb2
        go_simp
        refine hK _ _ ?_
        clear hK K
        try simp only [Act.put, List.setIfInBounds_toArray, List.set_cons_zero, List.set_cons_succ]
        refine Gl.wpAny_only (i := 12) (by kernel_rfl) rfl rfl (fun K hK => ?_)
        refine wp_buildC 79 _ rfl (some 15) rfl (zt Y1.heap.size) (by rw [HZT.out, HTL.out]; kernel_rfl) ?_
        refine hK _ _ ?_
        clear hK K
        try simp only [Act.put, List.setIfInBounds_toArray, List.set_cons_zero, List.set_cons_succ]
        refine Gl.wpAny_only (i := 13) (by kernel_rfl) rfl rfl (fun K hK => ?_)
        refine wp_boxC 79 _ rfl (some 16) rfl (zt Y1.heap.size) rfl ?_
        refine hK _ _ ?_
        clear hK K
        try simp only [Act.put, List.setIfInBounds_toArray, List.set_cons_zero, List.set_cons_succ]
        refine Gl.wpAny_only (i := 14) (by kernel_rfl) rfl rfl (fun K hK => ?_)
        go_simp
        refine hK _ _ ?_
        clear hK K
        try simp only [Act.put, List.setIfInBounds_toArray, List.set_cons_zero, List.set_cons_succ]
        refine wpAny_done (by kernel_rfl) ?_ _
        go_wp2
        go_ret
        exact HFIN.out Y1 Y2 HM1.out HB1.out HR2.out HB2.out
      · go_simp
        go_at_call 13
        refine HLG.mono ?_
        rintro e Y2 ⟨rfl, hR2, hb2⟩
        have HX2 := hide (HX1.out.on hb2)
        have HR2 := hide hR2
        have HB2 := hide hb2
        have c0 := keep_cell hb2 c0
        have c1 := keep_cell hb2 c1
        have c2 := keep_cell hb2 c2
        have rg2 := HRG Y2 HX2.out
        clear hR2 hb2
        go_simp
        refine hK _ _ ?_
        clear hK K
        try simp only [Act.put, List.setIfInBounds_toArray, List.set_cons_zero, List.set_cons_succ]
        refine Gl.wpAny_only (i := 3) (by kernel_rfl) rfl rfl (fun K hK => ?_)
        go_simp
        refine hK _ _ ?_
        clear hK K
        try simp only [Act.put, List.setIfInBounds_toArray, List.set_cons_zero, List.set_cons_succ]
        refine Gl.wpAny_only (i := 12) (by kernel_rfl) rfl rfl (fun K hK => ?_)
        refine wp_buildC 79 _ rfl (some 15) rfl (zt Y1.heap.size) (by rw [HZT.out, HTL.out]; kernel_rfl) ?_
        refine hK _ _ ?_
        clear hK K
        try simp only [Act.put, List.setIfInBounds_toArray, List.set_cons_zero, List.set_cons_succ]
        refine Gl.wpAny_only (i := 13) (by kernel_rfl) rfl rfl (fun K hK => ?_)
        refine wp_boxC 79 _ rfl (some 16) rfl (zt Y1.heap.size) rfl ?_
        refine hK _ _ ?_
        clear hK K
        try simp only [Act.put, List.setIfInBounds_toArray, List.set_cons_zero, List.set_cons_succ]
        refine Gl.wpAny_only (i := 14) (by kernel_rfl) rfl rfl (fun K hK => ?_)
        go_simp
        refine hK _ _ ?_
        clear hK K
        try simp only [Act.put, List.setIfInBounds_toArray, List.set_cons_zero, List.set_cons_succ]
        refine wpAny_done (by kernel_rfl) ?_ _
        go_wp2
        go_ret
        exact HFIN.out Y1 Y2 HM1.out HB1.out HR2.out HB2.out
    · go_simp
      go_at_call 13
      refine HLG.mono ?_
      rintro e Y2 ⟨rfl, hR2, hb2⟩
      have HX2 := hide (HX1.out.on hb2)
      have HR2 := hide hR2
      have HB2 := hide hb2
      have c0 := keep_cell hb2 c0
      have c1 := keep_cell hb2 c1
      have c2 := keep_cell hb2 c2
      have rg2 := HRG Y2 HX2.out
      clear hR2 hb2
      go_simp
      refine hK _ _ ?_
      clear hK K
      try simp only [Act.put, List.setIfInBounds_toArray, List.set_cons_zero, List.set_cons_succ]
      refine wpAny_two (i := 3) (j := 9) (by kernel_rfl) rfl rfl rfl rfl (fun K hK => ?_) (fun K hK => ?_)
      · go_simp
        refine hK _ _ ?_
        clear hK K
        try simp only [Act.put, List.setIfInBounds_toArray, List.set_cons_zero, List.set_cons_succ]
        refine Gl.wpAny_only (i := 9) (by kernel_rfl) rfl rfl (fun K hK => ?_)
        refine wp_load_mid (P := Tryz.prog) 77 _ rfl g 4 rfl tl _ rg2 Tryz.underlying77 rfl (by rw [htl]; exact size_threads) ?_
        refine hK _ _ ?_
        clear hK K
        try simp only [Act.put, List.setIfInBounds_toArray, List.set_cons_zero, List.set_cons_succ]
        refine Gl.wpAny_only (i := 12) (by kernel_rfl) rfl rfl (fun K hK => ?_)
        refine wp_buildC 79 _ rfl (some 15) rfl (zt Y1.heap.size) (by rw [HZT.out, HTL.out]; kernel_rfl) ?_
        refine hK _ _ ?_
        clear hK K
        try simp only [Act.put, List.setIfInBounds_toArray, List.set_cons_zero, List.set_cons_succ]
        refine Gl.wpAny_only (i := 13) (by kernel_rfl) rfl rfl (fun K hK => ?_)
        refine wp_boxC 79 _ rfl (some 16) rfl (zt Y1.heap.size) rfl ?_
        refine hK _ _ ?_
        clear hK K
        try simp only [Act.put, List.setIfInBounds_toArray, List.set_cons_zero, List.set_cons_succ]
        refine Gl.wpAny_only (i := 14) (by kernel_rfl) rfl rfl (fun K hK => ?_)
        go_simp
        refine hK _ _ ?_
        clear hK K
        try simp only [Act.put, List.setIfInBounds_toArray, List.set_cons_zero, List.set_cons_succ]
        refine wpAny_done (by kernel_rfl) ?_ _
        go_wp2
        go_ret
        exact HFIN.out Y1 Y2 HM1.out HB1.out HR2.out HB2.out
      · refine wp_load_mid (P := Tryz.prog) 77 _ rfl g 4 rfl tl _ rg2 Tryz.underlying77 rfl (by rw [htl]; exact size_threads) ?_
        refine hK _ _ ?_
        clear hK K
        try simp only [Act.put, List.setIfInBounds_toArray, List.set_cons_zero, List.set_cons_succ]
        refine Gl.wpAny_only (i := 3) (by kernel_rfl) rfl rfl (fun K hK => ?_)
        go_simp
        refine hK _ _ ?_
        clear hK K
        try simp only [Act.put, List.setIfInBounds_toArray, List.set_cons_zero, List.set_cons_succ]
        refine Gl.wpAny_only (i := 12) (by kernel_rfl) rfl rfl (fun K hK => ?_)
        refine wp_buildC 79 _ rfl (some 15) rfl (zt Y1.heap.size) (by rw [HZT.out, HTL.out]; kernel_rfl) ?_
        refine hK _ _ ?_
        clear hK K
        try simp only [Act.put, List.setIfInBounds_toArray, List.set_cons_zero, List.set_cons_succ]
        refine Gl.wpAny_only (i := 13) (by kernel_rfl) rfl rfl (fun K hK => ?_)
        refine wp_boxC 79 _ rfl (some 16) rfl (zt Y1.heap.size) rfl ?_
        refine hK _ _ ?_
        clear hK K
        try simp only [Act.put, List.setIfInBounds_toArray, List.set_cons_zero, List.set_cons_succ]
        refine Gl.wpAny_only (i := 14) (by kernel_rfl) rfl rfl (fun K hK => ?_)
        go_simp
        refine hK _ _ ?_
        clear hK K
        try simp only [Act.put, List.setIfInBounds_toArray, List.set_cons_zero, List.set_cons_succ]
        refine wpAny_done (by kernel_rfl) ?_ _
        go_wp2
        go_ret
        exact HFIN.out Y1 Y2 HM1.out HB1.out HR2.out HB2.out
  · refine wp_load_mid (P := Tryz.prog) 77 _ rfl g 4 rfl tl _ rg0 Tryz.underlying77 rfl (by rw [htl]; exact size_threads) ?_
    refine hK _ _ ?_
    clear hK K
    try simp only [Act.put, List.setIfInBounds_toArray, List.set_cons_zero, List.set_cons_succ]
    refine wpAny_two (i := 3) (j := 5) (by kernel_rfl) rfl rfl rfl rfl (fun K hK => ?_) (fun K hK => ?_)
    · go_simp
      refine hK _ _ ?_
      clear hK K
      try simp only [Act.put, List.setIfInBounds_toArray, List.set_cons_zero, List.set_cons_succ]
      refine Gl.wpAny_only (i := 5) (by kernel_rfl) rfl rfl (fun K hK => ?_)
      go_simp
      go_at_call 11
      refine HMM.mono ?_
      rintro e Y1 ⟨rfl, hM1, hb1⟩
      have HX1 := hide (hX.on hb1)
      have HM1 := hide hM1
      have HB1 := hide hb1
      have c0 := keep_cell hb1 c0
      have c1 := keep_cell hb1 c1
      have c2 := keep_cell hb1 c2
      have rg1 := HRG Y1 HX1.out
      have HLG := wlog_any HX1.out hlog
      rw [← HLL.out] at HLG
      clear hM1 hb1
      go_simp
      refine hK _ _ ?_
      clear hK K
      try simp only [Act.put, List.setIfInBounds_toArray, List.set_cons_zero, List.set_cons_succ]
      refine Gl.wpAny_only (i := 11) (by kernel_rfl) rfl rfl (fun K hK => ?_)
      go_simp
      go_at_call 13
      refine HLG.mono ?_
      rintro e Y2 ⟨rfl, hR2, hb2⟩
      have HX2 := hide (HX1.out.on hb2)
      have HR2 := hide hR2
      have HB2 := hide hb2
      have c0 := keep_cell hb2 c0
      have c1 := keep_cell hb2 c1
      have c2 := keep_cell hb2 c2
      have rg2 := HRG Y2 HX2.out
      clear hR2 hb2
      go_simp
      refine hK _ _ ?_
      clear hK K
      try simp only [Act.put, List.setIfInBounds_toArray, List.set_cons_zero, List.set_cons_succ]
      refine Gl.wpAny_only (i := 12) (by kernel_rfl) rfl rfl (fun K hK => ?_)
      refine wp_buildC 79 _ rfl (some 15) rfl (zt Y1.heap.size) (by rw [HZT.out, HTL.out]; kernel_rfl) ?_
      refine hK _ _ ?_
      clear hK K
      try simp only [Act.put, List.setIfInBounds_toArray, List.set_cons_zero, List.set_cons_succ]
      refine Gl.wpAny_only (i := 13) (by kernel_rfl) rfl rfl (fun K hK => ?_)
      refine wp_boxC 79 _ rfl (some 16) rfl (zt Y1.heap.size) rfl ?_
      refine hK _ _ ?_
      clear hK K
      try simp only [Act.put, List.setIfInBounds_toArray, List.set_cons_zero, List.set_cons_succ]
      refine Gl.wpAny_only (i := 14) (by kernel_rfl) rfl rfl (fun K hK => ?_)
      go_simp
      refine hK _ _ ?_
      clear hK K
      try simp only [Act.put, List.setIfInBounds_toArray, List.set_cons_zero, List.set_cons_succ]
      refine wpAny_done (by kernel_rfl) ?_ _
      go_wp2
      go_ret
      exact HFIN.out Y1 Y2 HM1.out HB1.out HR2.out HB2.out
    · go_simp
      go_at_call 11
      refine HMM.mono ?_
      rintro e Y1 ⟨rfl, hM1, hb1⟩
      have HX1 := hide (hX.on hb1)
      have HM1 := hide hM1
      have HB1 := hide hb1
      have c0 := keep_cell hb1 c0
      have c1 := keep_cell hb1 c1
      have c2 := keep_cell hb1 c2
      have rg1 := HRG Y1 HX1.out
      have HLG := wlog_any HX1.out hlog
      rw [← HLL.out] at HLG
      clear hM1 hb1
      go_simp
      refine hK _ _ ?_
      clear hK K
      try simp only [Act.put, List.setIfInBounds_toArray, List.set_cons_zero, List.set_cons_succ]
      refine wpAny_two (i := 3) (j := 11) (by kernel_rfl) rfl rfl rfl rfl (fun K hK => ?_) (fun K hK => ?_)
      · go_simp
        refine hK _ _ ?_
        clear hK K
        try simp only [Act.put, List.setIfInBounds_toArray, List.set_cons_zero, List.set_cons_succ]
        refine Gl.wpAny_only (i := 11) (by kernel_rfl) rfl rfl (fun K hK => ?_)
        go_simp
        go_at_call 13
        refine HLG.mono ?_
        rintro e Y2 ⟨rfl, hR2, hb2⟩
        have HX2 := hide (HX1.out.on hb2)
        have HR2 := hide hR2
        have HB2 := hide hb2
        have c0 := keep_cell hb2 c0
        have c1 := keep_cell hb2 c1
        have c2 := keep_cell hb2 c2
        have rg2 := HRG Y2 HX2.out
        clear hR2 hb2
        go_simp
        refine hK _ _ ?_
        clear hK K
        try simp only [Act.put, List.setIfInBounds_toArray, List.set_cons_zero, List.set_cons_succ]
        refine Gl.wpAny_only (i := 12) (by kernel_rfl) rfl rfl (fun K hK => ?_)
        refine wp_buildC 79 _ rfl (some 15) rfl (zt Y1.heap.size) (by rw [HZT.out, HTL.out]; kernel_rfl) ?_
        refine hK _ _ ?_
        clear hK K
        try simp only [Act.put, List.setIfInBounds_toArray, List.set_cons_zero, List.set_cons_succ]
        refine Gl.wpAny_only (i := 13) (by kernel_rfl) rfl rfl (fun K hK => ?_)
        refine wp_boxC 79 _ rfl (some 16) rfl (zt Y1.heap.size) rfl ?_
        refine hK _ _ ?_
        clear hK K
        try simp only [Act.put, List.setIfInBounds_toArray, List.set_cons_zero, List.set_cons_succ]
        refine Gl.wpAny_only (i := 14) (by kernel_rfl) rfl rfl (fun K hK => ?_)
        go_simp
        refine hK _ _ ?_
        clear hK K
        try simp only [Act.put, List.setIfInBounds_toArray, List.set_cons_zero, List.set_cons_succ]
        refine wpAny_done (by kernel_rfl) ?_ _
        go_wp2
        go_ret
        exact HFIN.out Y1 Y2 HM1.out HB1.out HR2.out HB2.out
      · go_simp
        go_at_call 13
        refine HLG.mono ?_
        rintro e Y2 ⟨rfl, hR2, hb2⟩
        have HX2 := hide (HX1.out.on hb2)
        have HR2 := hide hR2
        have HB2 := hide hb2
        have c0 := keep_cell hb2 c0
        have c1 := keep_cell hb2 c1
        have c2 := keep_cell hb2 c2
        have rg2 := HRG Y2 HX2.out
        clear hR2 hb2
        go_simp
        refine hK _ _ ?_
        clear hK K
        try simp only [Act.put, List.setIfInBounds_toArray, List.set_cons_zero, List.set_cons_succ]
        refine Gl.wpAny_only (i := 3) (by kernel_rfl) rfl rfl (fun K hK => ?_)
        go_simp
        refine hK _ _ ?_
        clear hK K
        try simp only [Act.put, List.setIfInBounds_toArray, List.set_cons_zero, List.set_cons_succ]
        refine Gl.wpAny_only (i := 12) (by kernel_rfl) rfl rfl (fun K hK => ?_)
        refine wp_buildC 79 _ rfl (some 15) rfl (zt Y1.heap.size) (by rw [HZT.out, HTL.out]; kernel_rfl) ?_
        refine hK _ _ ?_
        clear hK K
        try simp only [Act.put, List.setIfInBounds_toArray, List.set_cons_zero, List.set_cons_succ]
        refine Gl.wpAny_only (i := 13) (by kernel_rfl) rfl rfl (fun K hK => ?_)
        refine wp_boxC 79 _ rfl (some 16) rfl (zt Y1.heap.size) rfl ?_
        refine hK _ _ ?_
        clear hK K
        try simp only [Act.put, List.setIfInBounds_toArray, List.set_cons_zero, List.set_cons_succ]
        refine Gl.wpAny_only (i := 14) (by kernel_rfl) rfl rfl (fun K hK => ?_)
        go_simp
        refine hK _ _ ?_
        clear hK K
        try simp only [Act.put, List.setIfInBounds_toArray, List.set_cons_zero, List.set_cons_succ]
        refine wpAny_done (by kernel_rfl) ?_ _
        go_wp2
        go_ret
        exact HFIN.out Y1 Y2 HM1.out HB1.out HR2.out HB2.out
end Go.Proofs.YtlgghomjlhnijaaGreat

/- A struct is equal to itself. -/
namespace Go.Proofs.YtlgghomjlhnijaaGreat
open Go.RowKit Mm

/-- A part of a struct or an array that is read, and equal to itself. -/
def PartSelf (d : Nat) (t : TypeId) (xs : Array Value) (off : Nat) : Prop := ∃ v, (∀ w : World, (part t xs off).run Tryz.prog w = .ok v w) ∧ ∀ w : World, (Op.equalIn d t v v).run Tryz.prog w = .ok true w
theorem self_fields (d : Nat) (xs : Array Value) : ∀ (fs : List Field), (∀ f ∈ fs, PartSelf d f.type xs f.offset) → ∀ w : World, (Op.eqFields d xs xs fs).run Tryz.prog w = .ok true w
  | [], _, w => by simp [Op.eqFields]
  | f :: fs, h, w => by
    obtain ⟨v, h1, h2⟩ := h f (by simp)
    have ih := self_fields d xs fs (fun g hg => h g (by simp [hg])) w
    simp only [Op.eqFields, Sem.run_bind, Sem.run_ite, h1, h2, Result.andThen_ok, Bool.not_true, Bool.false_eq_true, if_false, ih]
    split <;> rfl
theorem self_struct {d : Nat} {t : TypeId} {xs : Array Value} {fs : List Field} (ht : Tryz.prog.underlying t = some (.struct (Tryz.prog.fieldsOf t))) (hp : Tryz.prog.stoodInHeld t = false) (hf : (Tryz.prog.fieldsOf t).toList = fs) (h : ∀ f ∈ fs, PartSelf d f.type xs f.offset) (w : World) : (Op.equalIn (d + 1) t (.agg xs) (.agg xs)).run Tryz.prog w = .ok true w := by
  rw [run_equalIn_struct w d t xs xs ht hp, hf]
  exact self_fields d xs fs h w
theorem part_one {d : Nat} {t : TypeId} {xs : Array Value} {off : Nat} {v : Value} (ha : ∀ w : World, (isAgg t).run Tryz.prog w = .ok false w) (hv : xs[off]? = some v) (hs : ∀ w : World, (Op.equalIn d t v v).run Tryz.prog w = .ok true w) : PartSelf d t xs off :=
  ⟨v, fun w => by simp [part, ha, hv], hs⟩
theorem self_four {d : Nat} {t elem : TypeId} {xs : Array Value} {n : Nat} (hu : Tryz.prog.underlying t = some (.array 4 elem)) (hs : (Tryz.prog.info? elem).map (·.size) = some n) (h : ∀ i, i < 4 → PartSelf d elem xs (i * n)) (w : World) : (Op.equalIn (d + 1) t (.agg xs) (.agg xs)).run Tryz.prog w = .ok true w := by
  obtain ⟨v0, a0, b0⟩ := h 0 (by omega)
  obtain ⟨v1, a1, b1⟩ := h 1 (by omega)
  obtain ⟨v2, a2, b2⟩ := h 2 (by omega)
  obtain ⟨v3, a3, b3⟩ := h 3 (by omega)
  rw [Nat.zero_mul] at a0
  rw [Nat.one_mul] at a1
  cases hq : Tryz.prog.info? elem with
  | none => simp [hq] at hs
  | some i =>
    have hi : i.size = n := by simpa [hq] using hs
    have hsz : ∀ w : World, (sizeOf elem).run Tryz.prog w = .ok n w := fun w => by simp [sizeOf, typeInfo, hq, hi]
    simp only [Op.equalIn, Sem.run_bind, run_underlying hu, Result.andThen_ok, hsz]
    simp [List.range', a0, a1, a2, a3, b0, b1, b2, b3, Result.andThen]
theorem self_struct' {d : Nat} {t : TypeId} {xs : Array Value} {fs : Array Field} (hu : Tryz.prog.underlying t = some (.struct fs)) (hp : Tryz.prog.stoodInHeld t = false) (h : ∀ f ∈ fs.toList, PartSelf d f.type xs f.offset) (w : World) : (Op.equalIn (d + 1) t (.agg xs) (.agg xs)).run Tryz.prog w = .ok true w := by
  have hf : Tryz.prog.fieldsOf t = fs := by unfold Program.fieldsOf; rw [hu]
  exact self_struct (by rw [hf]; exact hu) hp (by rw [hf]) h w
theorem part_agg {d : Nat} {t : TypeId} {xs : Array Value} {off n : Nat} (ha : ∀ w : World, (isAgg t).run Tryz.prog w = .ok true w) (hs : (Tryz.prog.info? t).map (·.size) = some n) {ys : Array Value} (hy : xs.extract off (off + n) = ys) (h : ∀ w : World, (Op.equalIn d t (.agg ys) (.agg ys)).run Tryz.prog w = .ok true w) : PartSelf d t xs off := by
  cases hq : Tryz.prog.info? t with
  | none => simp [hq] at hs
  | some i =>
    have hi : i.size = n := by simpa [hq] using hs
    have hsz : ∀ w : World, (sizeOf t).run Tryz.prog w = .ok n w := fun w => by simp [sizeOf, typeInfo, hq, hi]
    exact ⟨.agg ys, fun w => by simp [part, ha, hsz, hy], h⟩
theorem self_int {d : Nat} {t : TypeId} {k' : IntKind} (hu : Tryz.prog.underlying t = some (.int k')) (k : IntKind) (a : Int) (w : World) : (Op.equalIn (d + 1) t (.int k a) (.int k a)).run Tryz.prog w = .ok true w := by
  rw [run_equalIn_int w d t k k' a a hu, beq_self_eq_true]
theorem self_str {d : Nat} {t : TypeId} (hu : Tryz.prog.underlying t = some .string) (a : ByteArray) (w : World) : (Op.equalIn (d + 1) t (.string a) (.string a)).run Tryz.prog w = .ok true w := by
  rw [run_equalIn_string w d t a a hu, beq_self_eq_true]
theorem na_int : ∀ w : World, (isAgg 3).run Tryz.prog w = .ok false w := fun w => by kernel_rfl
theorem na_u32 : ∀ w : World, (isAgg 37).run Tryz.prog w = .ok false w := fun w => by kernel_rfl
theorem na_u64 : ∀ w : World, (isAgg 36).run Tryz.prog w = .ok false w := fun w => by kernel_rfl
theorem na_str : ∀ w : World, (isAgg 9).run Tryz.prog w = .ok false w := fun w => by kernel_rfl
theorem ag_call : ∀ w : World, (isAgg 40).run Tryz.prog w = .ok true w := fun w => by kernel_rfl
theorem ag_arr : ∀ w : World, (isAgg 38).run Tryz.prog w = .ok true w := fun w => by kernel_rfl
theorem ag_vals : ∀ w : World, (isAgg 52).run Tryz.prog w = .ok true w := fun w => by kernel_rfl
theorem ag_value : ∀ w : World, (isAgg 50).run Tryz.prog w = .ok true w := fun w => by kernel_rfl
theorem call_fs : ∃ f0 f1 f2 : Field, Tryz.prog.underlying 40 = some (.struct #[f0, f1, f2]) ∧ (f0.type = 37 ∧ f1.type = 37 ∧ f2.type = 38) ∧ (f0.offset = 0 ∧ f1.offset = 1 ∧ f2.offset = 2) :=
  ⟨_, _, _, Tryz.underlying40, ⟨by kernel_rfl, by kernel_rfl, by kernel_rfl⟩, by kernel_rfl, by kernel_rfl, by kernel_rfl⟩
theorem value_fs : ∃ f0 f1 f2 : Field, Tryz.prog.underlying 50 = some (.struct #[f0, f1, f2]) ∧ (f0.type = 9 ∧ f1.type = 37 ∧ f2.type = 3) ∧ (f0.offset = 0 ∧ f1.offset = 1 ∧ f2.offset = 2) :=
  ⟨_, _, _, Tryz.underlying50, ⟨by kernel_rfl, by kernel_rfl, by kernel_rfl⟩, by kernel_rfl, by kernel_rfl, by kernel_rfl⟩
theorem entry_fs : ∃ f0 f1 f2 f3 f4 : Field, Tryz.prog.underlying 54 = some (.struct #[f0, f1, f2, f3, f4]) ∧ (f0.type = 3 ∧ f1.type = 3 ∧ f2.type = 40 ∧ f3.type = 52 ∧ f4.type = 3) ∧ (f0.offset = 0 ∧ f1.offset = 1 ∧ f2.offset = 2 ∧ f3.offset = 8 ∧ f4.offset = 20) :=
  ⟨_, _, _, _, _, Tryz.underlying54, ⟨by kernel_rfl, by kernel_rfl, by kernel_rfl, by kernel_rfl, by kernel_rfl⟩, by kernel_rfl, by kernel_rfl, by kernel_rfl, by kernel_rfl, by kernel_rfl⟩
theorem self_call (d : Nat) (c : KL) (w : World) : (Op.equalIn (d + 3) 40 (.agg (klC c)) (.agg (klC c))).run Tryz.prog w = .ok true w := by
  obtain ⟨f0, f1, f2, hu, ⟨t0, t1, t2⟩, o0, o1, o2⟩ := call_fs
  refine self_struct' hu (by kernel_rfl) (fun f hf => ?_) w
  simp only [List.mem_cons, List.not_mem_nil, or_false] at hf
  rcases hf with rfl | rfl | rfl
  · rw [t0, o0]; exact part_one na_u32 rfl (self_int Tryz.underlying37 _ _)
  · rw [t1, o1]; exact part_one na_u32 rfl (self_int Tryz.underlying37 _ _)
  · rw [t2, o2]
    refine part_agg (n := 4) ag_arr (by kernel_rfl) (ys := #[.int .u64 c.a0, .int .u64 c.a1, .int .u64 c.a2, .int .u64 c.a3]) rfl (self_four Tryz.underlying38 (n := 1) (by kernel_rfl) fun i hi => ?_)
    rcases show i = 0 ∨ i = 1 ∨ i = 2 ∨ i = 3 by omega with rfl | rfl | rfl | rfl <;> exact part_one na_u64 rfl (self_int Tryz.underlying36 _ _)
theorem self_value (d : Nat) (v : VL) (w : World) : (Op.equalIn (d + 2) 50 (.agg (vlC v)) (.agg (vlC v))).run Tryz.prog w = .ok true w := by
  obtain ⟨f0, f1, f2, hu, ⟨t0, t1, t2⟩, o0, o1, o2⟩ := value_fs
  refine self_struct' hu (by kernel_rfl) (fun f hf => ?_) w
  simp only [List.mem_cons, List.not_mem_nil, or_false] at hf
  rcases hf with rfl | rfl | rfl
  · rw [t0, o0]; exact part_one na_str rfl (self_str Tryz.underlying9 _)
  · rw [t1, o1]; exact part_one na_u32 rfl (self_int Tryz.underlying37 _ _)
  · rw [t2, o2]; exact part_one na_int rfl (self_int Tryz.underlying3 _ _)
theorem self_entry (d : Nat) (e : EN) (w : World) : (Op.equalIn (d + 4) 54 (.agg (entE e)) (.agg (entE e))).run Tryz.prog w = .ok true w := by
  obtain ⟨f0, f1, f2, f3, f4, hu, ⟨t0, t1, t2, t3, t4⟩, o0, o1, o2, o3, o4⟩ := entry_fs
  refine self_struct' hu (by kernel_rfl) (fun f hf => ?_) w
  simp only [List.mem_cons, List.not_mem_nil, or_false] at hf
  rcases hf with rfl | rfl | rfl | rfl | rfl
  · rw [t0, o0]; exact part_one na_int rfl (self_int Tryz.underlying3 _ _)
  · rw [t1, o1]; exact part_one na_int rfl (self_int Tryz.underlying3 _ _)
  · rw [t2, o2]
    exact part_agg (n := 6) ag_call (by kernel_rfl) (ys := klC e.call) rfl (self_call d e.call)
  · rw [t3, o3]
    refine part_agg (n := 12) ag_vals (by kernel_rfl) (ys := #[.string e.vals.v0.path, .int .u32 e.vals.v0.ip, .int .i64 e.vals.v0.port, .string e.vals.v1.path, .int .u32 e.vals.v1.ip, .int .i64 e.vals.v1.port, .string e.vals.v2.path, .int .u32 e.vals.v2.ip, .int .i64 e.vals.v2.port, .string e.vals.v3.path, .int .u32 e.vals.v3.ip, .int .i64 e.vals.v3.port]) rfl (self_four Tryz.underlying52 (n := 3) (by kernel_rfl) fun i hi => ?_)
    rcases show i = 0 ∨ i = 1 ∨ i = 2 ∨ i = 3 by omega with rfl | rfl | rfl | rfl
    · exact part_agg (n := 3) ag_value (by kernel_rfl) (ys := vlC e.vals.v0) rfl (self_value d _)
    · exact part_agg (n := 3) ag_value (by kernel_rfl) (ys := vlC e.vals.v1) rfl (self_value d _)
    · exact part_agg (n := 3) ag_value (by kernel_rfl) (ys := vlC e.vals.v2) rfl (self_value d _)
    · exact part_agg (n := 3) ag_value (by kernel_rfl) (ys := vlC e.vals.v3) rfl (self_value d _)
  · rw [t4, o4]; exact part_one na_int rfl (self_int Tryz.underlying3 _ _)
theorem neq_call (c : KL) (w : World) : (binOp .neq 40 (.agg (klC c)) (.agg (klC c))).run Tryz.prog w = .ok (.bool false) w := by
  rw [run_neq_struct, self_call 9997 c w]
  rfl
theorem neq_entry (e : EN) (w : World) : (binOp .neq 54 (.agg (entE e)) (.agg (entE e))).run Tryz.prog w = .ok (.bool false) w := by
  rw [run_neq_struct, self_entry 9996 e w]
  rfl
end Go.Proofs.YtlgghomjlhnijaaGreat
