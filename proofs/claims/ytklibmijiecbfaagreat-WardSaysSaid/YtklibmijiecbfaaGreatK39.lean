/- Copy. -/
import Derived.Test.YtklibmijiecbfaaGreatK38
import Derived.Test.YtklibmijiecbfaaGreatK16
import Derived.Test.YtklibmijiecbfaaGreatK36
import Derived.Test.YtklibmijiecbfaaGreatK3
import Derived.Laws.StructEq
namespace Go.Proofs.YtklibmijiecbfaaGreat
open Go.RowKit Mm

theorem wp_boxC {o : Oper} {a : Act} {w : World} {K : Act → World → Prop} {Q : Exit → Act → World → Prop} (t : TypeId) (x : Operand) (ho : o.op = .box t x) (d : Option Tmp) (hd : o.dst = d) (cells : Array Value) (hx : (a.eval x).cells = cells)
  (h : K (a.put d (.pointer (some ⟨w.heap.size, 0, none⟩))) (w.alloc (.cells cells t))) : o.wp Tryz.prog a w K Q := by
 subst hd hx
 unfold Oper.wp execOp
 simp only [ho, Sem.run_bind, Instr.box, newVar, newRow, run_newObj_alloc, Sem.run_pure, Result.andThen_ok]
 exact h
theorem size_threads : (Tryz.prog.info? 77).map (·.size) = some 87 := by kernel_rfl
structure CWX (g' gm' : Nat) (P : PV) (s : WS) (lv' : Value) (W X : World) : Prop where
 ward : WX g' gm' P s lv' X
 below : Below W.heap.size W X
 g : W.heap.size ≤ g'
 m : W.heap.size ≤ gm'
 l : ∀ k, lv'.ownBlock = some k → W.heap.size ≤ k
theorem CWX.of {g gm : Nat} {P : PV} {s : WS} {lv : Value} {W Y1 Y2 : World} (h : WX g gm P s lv W) (hlog : s.log.length ≤ 1000000) (hM : IsM W.heap.size s.mem Y1) (hb1 : Below W.heap.size W Y1) (hR : Y2.heap[Y1.heap.size]? = some (.cells (flatE s.log).toArray 70 (0, 0))) (hb2 : Below Y1.heap.size Y1 Y2) :
  CWX Y2.heap.size W.heap.size P s (.slice (some ⟨Y1.heap.size, 0, none⟩) s.log.length s.log.length) W (Y2.alloc (.cells (VA 92 (cellW P W.heap.size s.T (.slice (some ⟨Y1.heap.size, 0, none⟩) s.log.length s.log.length))) 79)) := by
 have hml : W.heap.size < Y1.heap.size := (Array.getElem?_eq_some_iff.1 hM).1
 have hrl : Y1.heap.size < Y2.heap.size := (Array.getElem?_eq_some_iff.1 hR).1
 have hb := box_below Y2 (.cells (VA 92 (cellW P W.heap.size s.T (.slice (some ⟨Y1.heap.size, 0, none⟩) s.log.length s.log.length))) 79)
 have hall := below_next (below_next hb1 hb2) hb
 have hbd := h.bd
 refine ⟨⟨heap_alloc_new _ _, (hM.on hb2).on hb, ⟨flatE_len _, .inr ⟨Y1.heap.size, s.log.length, (flatE s.log).toArray, rfl, Nat.zero_le _, (hb.block _ hrl).trans hR, Nat.le_refl _, by unfold maxLen; omega, by rw [List.size_toArray]; exact flatE_len _, by rw [← flatE_len, List.take_length]⟩⟩, by omega, fun k hk => ?_, Nat.le_trans hbd hall.size, fun U hU hs => h.pol U (fun k hk _ _ _ => (hU k hk (by omega) (by omega) (fun e => ?_)).trans (hall.block k (by omega))) hs⟩, hall, by omega, Nat.le_refl _, fun k hk => ?_⟩
 ·
  obtain rfl : Y1.heap.size = k := Option.some.inj hk
  omega
 ·
  obtain rfl : Y1.heap.size = k := Option.some.inj e
  omega
 ·
  obtain rfl : Y1.heap.size = k := Option.some.inj hk
  omega
set_option maxHeartbeats 8000000 in
set_option maxRecDepth 100000 in
theorem wcopy_any {g gm : Nat} {P : PV} {s : WS} {lv : Value} {W : World} (h : WX g gm P s lv W) (hlog : s.log.length ≤ 1000000) :
  Calls Tryz.prog 12 #[.pointer (some ⟨g, 0, none⟩)] W fun e w' => ∃ g' gm' lv', e = .returned (.pointer (some ⟨g', 0, none⟩)) ∧ CWX g' gm' P s lv' W w' := by
 have hX := h.on (Below.refl _ W).drew
 have HMM := wmem_any hX
 obtain ⟨L, hL⟩ : ∃ x, x = s.log.length := ⟨_, rfl⟩
 have HLL := hide hL
 have HFIN := hide (show ∀ Y1 Y2 : World, IsM W.drew.heap.size s.mem Y1 → Below W.drew.heap.size W.drew Y1 → Y2.heap[Y1.heap.size]? = some (.cells (flatE s.log).toArray 70 (0, 0)) → Below Y1.heap.size Y1 Y2 → ∃ g' gm' lv', Ending.returned (.pointer (some ⟨Y2.heap.size, 0, none⟩)) = Ending.returned (.pointer (some ⟨g', 0, none⟩)) ∧ CWX g' gm' P s lv' W (Y2.alloc (.cells (VA 92 (cellW P W.heap.size s.T (.slice (some ⟨Y1.heap.size, 0, none⟩) L L))) 79)) from fun Y1 Y2 a1 a2 a3 a4 => ⟨_, _, _, rfl, by rw [hL]; exact CWX.of h hlog a1 ⟨a2.os, a2.tape, a2.output, a2.size, a2.block⟩ a3 a4⟩)
 have c0 : W.drew.cell? ⟨g, 0, none⟩ = some (.slice P.oa P.p.rules.length P.cap) := h.cell 0 (by omega)
 have c1 : W.drew.cell? ⟨g, 1, none⟩ = some (.int .i64 P.p.els.kind) := h.cell 1 (by omega)
 have c2 : W.drew.cell? ⟨g, 2, none⟩ = some (.int .i64 P.p.els.errno) := h.cell 2 (by omega)
 obtain ⟨tl, hTL⟩ : ∃ t : List Value, t = List.ofFn (n := 87) fun i => cellT (s.T ((i : Nat) / 29)) ((i : Nat) % 29) := ⟨_, rfl⟩
 have htl : tl.length = 87 := by rw [hTL, List.length_ofFn]
 have HRG : ∀ X : World, WX g gm P s lv X → X.rangeAt g 4 tl := fun X hXX j v hv => by
  have hj : j < 87 := by rw [← htl]; exact (List.getElem?_eq_some_iff.1 hv).1
  rw [hTL, List.getElem?_ofFn, dif_pos hj] at hv
  rw [← hv, show 4 + j = 4 + j / 29 * 29 + j % 29 by omega]
  exact hXX.th (j / 29) (j % 29) (by omega) (by omega)
 have rg0 := HRG _ hX
 obtain ⟨zt, hZT⟩ : ∃ z : Nat → Array Value, z = fun y => VA 92 (cellW P W.heap.size s.T (.slice (some ⟨y, 0, none⟩) L L)) := ⟨_, rfl⟩
 have HFIN2 := HFIN.out
 replace HFIN := hide (show ∀ Y1 Y2 : World, IsM W.drew.heap.size s.mem Y1 → Below W.drew.heap.size W.drew Y1 → Y2.heap[Y1.heap.size]? = some (.cells (flatE s.log).toArray 70 (0, 0)) → Below Y1.heap.size Y1 Y2 → ∃ g' gm' lv', Ending.returned (.pointer (some ⟨Y2.heap.size, 0, none⟩)) = Ending.returned (.pointer (some ⟨g', 0, none⟩)) ∧ CWX g' gm' P s lv' W (Y2.alloc (.cells (zt Y1.heap.size) 79)) from fun Y1 Y2 a1 a2 a3 a4 => by rw [hZT]; exact HFIN2 Y1 Y2 a1 a2 a3 a4)
 obtain ⟨pn, hpn⟩ : ∃ m, m = P.p.rules.length := ⟨_, rfl⟩
 obtain ⟨pk, hpk⟩ : ∃ m, m = P.p.els.kind := ⟨_, rfl⟩
 obtain ⟨pe, hpe⟩ : ∃ m, m = P.p.els.errno := ⟨_, rfl⟩
 have HZT := hide (show zt = fun y => Array.ofFn (n := 92) fun i => if (i : Nat) = 0 then .slice P.oa pn P.cap else if (i : Nat) = 1 then .int .i64 pk else if (i : Nat) = 2 then .int .i64 pe else if (i : Nat) = 3 then .pointer (some ⟨W.heap.size, 0, none⟩) else if (i : Nat) < 91 then cellT (s.T (((i : Nat) - 4) / 29)) (((i : Nat) - 4) % 29) else .slice (some ⟨y, 0, none⟩) L L by
  rw [hZT]
  funext y
  rw [VA_eq]
  unfold VA0 cellW
  rw [hpn, hpk, hpe])
 rw [← hpn] at c0
 rw [← hpk] at c1
 rw [← hpe] at c2
 have HTL := hide hTL
 clear HFIN2 hZT hTL hL hpn hpk hpe h
 go_enter Tryz.func12, Tryz.ntmps12
 go_wp2_with fail
 refine wp_region_any (by kernel_rfl) ?_
 change wpAny _ _ _ _ _ _ _ (World.drew _)
 refine Gl.wpAny_takeOf 0 (some 3) (Value.pointer (some ⟨g, 0, none⟩)) rfl rfl (by kernel_rfl) (by kernel_rfl) (by kernel_rfl) (fun _ _ _ h => h) (Or.inl ⟨by rfl, ?_⟩) ?_
 ·
  intro wx
  go_simp
 try simp only [Act.put, LT1, LT2, LT3]
 refine Gl.wpAny_takeOf 1 (some 4) (Value.pointer (some ⟨g, 0, none⟩)) rfl rfl (by kernel_rfl) (by kernel_rfl) (by kernel_rfl) (fun _ _ _ h => h) (Or.inl ⟨by rfl, ?_⟩) ?_
 ·
  intro wx
  go_simp
 try simp only [Act.put, LT1, LT2, LT3]
 refine Gl.wpAny_takeOf 2 (some 5) (Value.pointer (some ⟨g, 0, none⟩)) rfl rfl (by kernel_rfl) (by kernel_rfl) (by kernel_rfl) (fun _ _ _ h => h) (Or.inl ⟨by rfl, ?_⟩) ?_
 ·
  intro wx
  go_simp
 try simp only [Act.put, LT1, LT2, LT3]
 refine Gl.wpAny_takeOf 4 (some 7) (Value.pointer (some ⟨g, 0, none⟩)) rfl rfl (by kernel_rfl) (by kernel_rfl) (by kernel_rfl) (fun _ _ _ h => h) (Or.inl ⟨by rfl, ?_⟩) ?_
 ·
  intro wx
  go_simp
 try simp only [Act.put, LT1, LT2, LT3]
 refine Gl.wpAny_takeOf 6 (some 9) (Value.pointer (some ⟨g, 0, none⟩)) rfl rfl (by kernel_rfl) (by kernel_rfl) (by kernel_rfl) (fun _ _ _ h => h) (Or.inl ⟨by rfl, ?_⟩) ?_
 ·
  intro wx
  go_simp
 try simp only [Act.put, LT1, LT2, LT3]
 refine Gl.wpAny_takeOf 7 (some 10) (Value.pointer (some ⟨g, 0, none⟩)) rfl rfl (by kernel_rfl) (by kernel_rfl) (by kernel_rfl) (fun _ _ _ h => h) (Or.inl ⟨by rfl, ?_⟩) ?_
 ·
  intro wx
  go_simp
 try simp only [Act.put, LT1, LT2, LT3]
 refine Gl.wpAny_takeOf 8 (some 11) (Value.pointer (some ⟨g, 4, none⟩)) rfl rfl (by kernel_rfl) (by kernel_rfl) (by kernel_rfl) (fun _ _ _ h => h) (Or.inl ⟨by rfl, ?_⟩) ?_
 ·
  intro wx
  go_simp
 try simp only [Act.put, LT1, LT2, LT3]
 refine Gl.wpAny_takeOf 10 (some 13) (Value.pointer (some ⟨g, 0, none⟩)) rfl rfl (by kernel_rfl) (by kernel_rfl) (by kernel_rfl) (fun _ _ _ h => h) (Or.inl ⟨by rfl, ?_⟩) ?_
 ·
  intro wx
  go_simp
 try simp only [Act.put, LT1, LT2, LT3]
 refine wpAny_three (i := 3) (j := 5) (k := 9) (by kernel_rfl) rfl rfl rfl rfl rfl rfl (fun K hK => ?_) (fun K hK => ?_) (fun K hK => ?_)
 ·
  go_simp
  refine hK _ _ ?_
  clear hK K
  try simp only [Act.put, LT1, LT2, LT3]
  refine wpAny_two (i := 5) (j := 9) (by kernel_rfl) rfl rfl rfl rfl (fun K hK => ?_) (fun K hK => ?_)
  ·
   go_simp
   go_at_call 24
   refine HMM.mono ?_
   rintro e Y1 ⟨rfl, hM1, hb1⟩
   have HX1 := hide (hX.on hb1)
   have HM1 := hide hM1
   have HB1 := hide hb1
   have c0 := keep_cell hb1 c0
   have c1 := keep_cell hb1 c1
   have c2 := keep_cell hb1 c2
   have rg1 := HRG Y1 HX1.out
   have HLG := wlog_any HX1.out hlog
   rw [← HLL.out] at HLG
   clear hM1 hb1
   go_simp
   refine hK _ _ ?_
   clear hK K
   try simp only [Act.put, LT1, LT2, LT3]
   refine wpAny_two (i := 9) (j := 11) (by kernel_rfl) rfl rfl rfl rfl (fun K hK => ?_) (fun K hK => ?_)
   ·
    refine wp_load_mid (P := Tryz.prog) 77 _ rfl g 4 rfl tl _ rg1 Tryz.underlying77 rfl (by rw [htl]; exact size_threads) ?_
    refine hK _ _ ?_
    clear hK K
    try simp only [Act.put, LT1, LT2, LT3]
    refine Gl.wpAny_only (i := 11) (by kernel_rfl) rfl rfl (fun K hK => ?_)
    go_simp
    go_at_call 18
    refine HLG.mono ?_
    rintro e Y2 ⟨rfl, hR2, hb2⟩
    have HX2 := hide (HX1.out.on hb2)
    have HR2 := hide hR2
    have HB2 := hide hb2
    have c0 := keep_cell hb2 c0
    have c1 := keep_cell hb2 c1
    have c2 := keep_cell hb2 c2
    have rg2 := HRG Y2 HX2.out
    clear hR2 hb2
    go_simp
    refine hK _ _ ?_
    clear hK K
    try simp only [Act.put, LT1, LT2, LT3]
    refine Gl.wpAny_only (i := 12) (by kernel_rfl) rfl rfl (fun K hK => ?_)
    refine wp_buildC 79 _ rfl (some 15) rfl (zt Y1.heap.size) (by rw [HZT.out, HTL.out]; kernel_rfl) ?_
    refine hK _ _ ?_
    clear hK K
    try simp only [Act.put, LT1, LT2, LT3]
    refine Gl.wpAny_only (i := 13) (by kernel_rfl) rfl rfl (fun K hK => ?_)
    refine wp_boxC 79 _ rfl (some 16) rfl (zt Y1.heap.size) rfl ?_
    refine hK _ _ ?_
    clear hK K
    try simp only [Act.put, LT1, LT2, LT3]
    refine Gl.wpAny_only (i := 14) (by kernel_rfl) rfl rfl (fun K hK => ?_)
    go_simp
    refine hK _ _ ?_
    clear hK K
    try simp only [Act.put, LT1, LT2, LT3]
    refine wpAny_done (by kernel_rfl) ?_ _
    go_wp2
    go_ret
    exact HFIN.out Y1 Y2 HM1.out HB1.out HR2.out HB2.out
   ·
    go_simp
    go_at_call 18
    refine HLG.mono ?_
    rintro e Y2 ⟨rfl, hR2, hb2⟩
    have HX2 := hide (HX1.out.on hb2)
    have HR2 := hide hR2
    have HB2 := hide hb2
    have c0 := keep_cell hb2 c0
    have c1 := keep_cell hb2 c1
    have c2 := keep_cell hb2 c2
    have rg2 := HRG Y2 HX2.out
    clear hR2 hb2
    go_simp
    refine hK _ _ ?_
    clear hK K
    try simp only [Act.put, LT1, LT2, LT3]
    refine Gl.wpAny_only (i := 9) (by kernel_rfl) rfl rfl (fun K hK => ?_)
    refine wp_load_mid (P := Tryz.prog) 77 _ rfl g 4 rfl tl _ rg2 Tryz.underlying77 rfl (by rw [htl]; exact size_threads) ?_
    refine hK _ _ ?_
    clear hK K
    try simp only [Act.put, LT1, LT2, LT3]
    refine Gl.wpAny_only (i := 12) (by kernel_rfl) rfl rfl (fun K hK => ?_)
    refine wp_buildC 79 _ rfl (some 15) rfl (zt Y1.heap.size) (by rw [HZT.out, HTL.out]; kernel_rfl) ?_
    refine hK _ _ ?_
    clear hK K
    try simp only [Act.put, LT1, LT2, LT3]
    refine Gl.wpAny_only (i := 13) (by kernel_rfl) rfl rfl (fun K hK => ?_)
    refine wp_boxC 79 _ rfl (some 16) rfl (zt Y1.heap.size) rfl ?_
    refine hK _ _ ?_
    clear hK K
    try simp only [Act.put, LT1, LT2, LT3]
    refine Gl.wpAny_only (i := 14) (by kernel_rfl) rfl rfl (fun K hK => ?_)
    go_simp
    refine hK _ _ ?_
    clear hK K
    try simp only [Act.put, LT1, LT2, LT3]
    refine wpAny_done (by kernel_rfl) ?_ _
    go_wp2
    go_ret
    exact HFIN.out Y1 Y2 HM1.out HB1.out HR2.out HB2.out
  ·
   refine wp_load_mid (P := Tryz.prog) 77 _ rfl g 4 rfl tl _ rg0 Tryz.underlying77 rfl (by rw [htl]; exact size_threads) ?_
   refine hK _ _ ?_
   clear hK K
   try simp only [Act.put, LT1, LT2, LT3]
   refine Gl.wpAny_only (i := 5) (by kernel_rfl) rfl rfl (fun K hK => ?_)
   go_simp
   go_at_call 24
   refine HMM.mono ?_
   rintro e Y1 ⟨rfl, hM1, hb1⟩
   have HX1 := hide (hX.on hb1)
   have HM1 := hide hM1
   have HB1 := hide hb1
   have c0 := keep_cell hb1 c0
   have c1 := keep_cell hb1 c1
   have c2 := keep_cell hb1 c2
   have rg1 := HRG Y1 HX1.out
   have HLG := wlog_any HX1.out hlog
   rw [← HLL.out] at HLG
   clear hM1 hb1
   go_simp
   refine hK _ _ ?_
   clear hK K
   try simp only [Act.put, LT1, LT2, LT3]
   refine Gl.wpAny_only (i := 11) (by kernel_rfl) rfl rfl (fun K hK => ?_)
   go_simp
   go_at_call 18
   refine HLG.mono ?_
   rintro e Y2 ⟨rfl, hR2, hb2⟩
   have HX2 := hide (HX1.out.on hb2)
   have HR2 := hide hR2
   have HB2 := hide hb2
   have c0 := keep_cell hb2 c0
   have c1 := keep_cell hb2 c1
   have c2 := keep_cell hb2 c2
   have rg2 := HRG Y2 HX2.out
   clear hR2 hb2
   go_simp
   refine hK _ _ ?_
   clear hK K
   try simp only [Act.put, LT1, LT2, LT3]
   refine Gl.wpAny_only (i := 12) (by kernel_rfl) rfl rfl (fun K hK => ?_)
   refine wp_buildC 79 _ rfl (some 15) rfl (zt Y1.heap.size) (by rw [HZT.out, HTL.out]; kernel_rfl) ?_
   refine hK _ _ ?_
   clear hK K
   try simp only [Act.put, LT1, LT2, LT3]
   refine Gl.wpAny_only (i := 13) (by kernel_rfl) rfl rfl (fun K hK => ?_)
   refine wp_boxC 79 _ rfl (some 16) rfl (zt Y1.heap.size) rfl ?_
   refine hK _ _ ?_
   clear hK K
   try simp only [Act.put, LT1, LT2, LT3]
   refine Gl.wpAny_only (i := 14) (by kernel_rfl) rfl rfl (fun K hK => ?_)
   go_simp
   refine hK _ _ ?_
   clear hK K
   try simp only [Act.put, LT1, LT2, LT3]
   refine wpAny_done (by kernel_rfl) ?_ _
   go_wp2
   go_ret
   exact HFIN.out Y1 Y2 HM1.out HB1.out HR2.out HB2.out
 ·
  go_simp
  go_at_call 24
  refine HMM.mono ?_
  rintro e Y1 ⟨rfl, hM1, hb1⟩
  have HX1 := hide (hX.on hb1)
  have HM1 := hide hM1
  have HB1 := hide hb1
  have c0 := keep_cell hb1 c0
  have c1 := keep_cell hb1 c1
  have c2 := keep_cell hb1 c2
  have rg1 := HRG Y1 HX1.out
  have HLG := wlog_any HX1.out hlog
  rw [← HLL.out] at HLG
  clear hM1 hb1
  go_simp
  refine hK _ _ ?_
  clear hK K
  try simp only [Act.put, LT1, LT2, LT3]
  refine wpAny_three (i := 3) (j := 9) (k := 11) (by kernel_rfl) rfl rfl rfl rfl rfl rfl (fun K hK => ?_) (fun K hK => ?_) (fun K hK => ?_)
  ·
   go_simp
   refine hK _ _ ?_
   clear hK K
   try simp only [Act.put, LT1, LT2, LT3]
   refine wpAny_two (i := 9) (j := 11) (by kernel_rfl) rfl rfl rfl rfl (fun K hK => ?_) (fun K hK => ?_)
   ·
    refine wp_load_mid (P := Tryz.prog) 77 _ rfl g 4 rfl tl _ rg1 Tryz.underlying77 rfl (by rw [htl]; exact size_threads) ?_
    refine hK _ _ ?_
    clear hK K
    try simp only [Act.put, LT1, LT2, LT3]
    refine Gl.wpAny_only (i := 11) (by kernel_rfl) rfl rfl (fun K hK => ?_)
    go_simp
    go_at_call 18
    refine HLG.mono ?_
    rintro e Y2 ⟨rfl, hR2, hb2⟩
    have HX2 := hide (HX1.out.on hb2)
    have HR2 := hide hR2
    have HB2 := hide hb2
    have c0 := keep_cell hb2 c0
    have c1 := keep_cell hb2 c1
    have c2 := keep_cell hb2 c2
    have rg2 := HRG Y2 HX2.out
    clear hR2 hb2
    go_simp
    refine hK _ _ ?_
    clear hK K
    try simp only [Act.put, LT1, LT2, LT3]
    refine Gl.wpAny_only (i := 12) (by kernel_rfl) rfl rfl (fun K hK => ?_)
    refine wp_buildC 79 _ rfl (some 15) rfl (zt Y1.heap.size) (by rw [HZT.out, HTL.out]; kernel_rfl) ?_
    refine hK _ _ ?_
    clear hK K
    try simp only [Act.put, LT1, LT2, LT3]
    refine Gl.wpAny_only (i := 13) (by kernel_rfl) rfl rfl (fun K hK => ?_)
    refine wp_boxC 79 _ rfl (some 16) rfl (zt Y1.heap.size) rfl ?_
    refine hK _ _ ?_
    clear hK K
    try simp only [Act.put, LT1, LT2, LT3]
    refine Gl.wpAny_only (i := 14) (by kernel_rfl) rfl rfl (fun K hK => ?_)
    go_simp
    refine hK _ _ ?_
    clear hK K
    try simp only [Act.put, LT1, LT2, LT3]
    refine wpAny_done (by kernel_rfl) ?_ _
    go_wp2
    go_ret
    exact HFIN.out Y1 Y2 HM1.out HB1.out HR2.out HB2.out
   ·
    go_simp
    go_at_call 18
    refine HLG.mono ?_
    rintro e Y2 ⟨rfl, hR2, hb2⟩
    have HX2 := hide (HX1.out.on hb2)
    have HR2 := hide hR2
    have HB2 := hide hb2
    have c0 := keep_cell hb2 c0
    have c1 := keep_cell hb2 c1
    have c2 := keep_cell hb2 c2
    have rg2 := HRG Y2 HX2.out
    clear hR2 hb2
    go_simp
    refine hK _ _ ?_
    clear hK K
    try simp only [Act.put, LT1, LT2, LT3]
    refine Gl.wpAny_only (i := 9) (by kernel_rfl) rfl rfl (fun K hK => ?_)
    refine wp_load_mid (P := Tryz.prog) 77 _ rfl g 4 rfl tl _ rg2 Tryz.underlying77 rfl (by rw [htl]; exact size_threads) ?_
    refine hK _ _ ?_
    clear hK K
    try simp only [Act.put, LT1, LT2, LT3]
    refine Gl.wpAny_only (i := 12) (by kernel_rfl) rfl rfl (fun K hK => ?_)
    refine wp_buildC 79 _ rfl (some 15) rfl (zt Y1.heap.size) (by rw [HZT.out, HTL.out]; kernel_rfl) ?_
    refine hK _ _ ?_
    clear hK K
    try simp only [Act.put, LT1, LT2, LT3]
    refine Gl.wpAny_only (i := 13) (by kernel_rfl) rfl rfl (fun K hK => ?_)
    refine wp_boxC 79 _ rfl (some 16) rfl (zt Y1.heap.size) rfl ?_
    refine hK _ _ ?_
    clear hK K
    try simp only [Act.put, LT1, LT2, LT3]
    refine Gl.wpAny_only (i := 14) (by kernel_rfl) rfl rfl (fun K hK => ?_)
    go_simp
    refine hK _ _ ?_
    clear hK K
    try simp only [Act.put, LT1, LT2, LT3]
    refine wpAny_done (by kernel_rfl) ?_ _
    go_wp2
    go_ret
    exact HFIN.out Y1 Y2 HM1.out HB1.out HR2.out HB2.out
  ·
   refine wp_load_mid (P := Tryz.prog) 77 _ rfl g 4 rfl tl _ rg1 Tryz.underlying77 rfl (by rw [htl]; exact size_threads) ?_
   refine hK _ _ ?_
   clear hK K
   try simp only [Act.put, LT1, LT2, LT3]
   refine wpAny_two (i := 3) (j := 11) (by kernel_rfl) rfl rfl rfl rfl (fun K hK => ?_) (fun K hK => ?_)
   ·
    go_simp
    refine hK _ _ ?_
    clear hK K
    try simp only [Act.put, LT1, LT2, LT3]
    refine Gl.wpAny_only (i := 11) (by kernel_rfl) rfl rfl (fun K hK => ?_)
    go_simp
    go_at_call 18
    refine HLG.mono ?_
    rintro e Y2 ⟨rfl, hR2, hb2⟩
    have HX2 := hide (HX1.out.on hb2)
    have HR2 := hide hR2
    have HB2 := hide hb2
    have c0 := keep_cell hb2 c0
    have c1 := keep_cell hb2 c1
    have c2 := keep_cell hb2 c2
    have rg2 := HRG Y2 HX2.out
    clear hR2 hb2
    go_simp
    refine hK _ _ ?_
    clear hK K
    try simp only [Act.put, LT1, LT2, LT3]
    refine Gl.wpAny_only (i := 12) (by kernel_rfl) rfl rfl (fun K hK => ?_)
    refine wp_buildC 79 _ rfl (some 15) rfl (zt Y1.heap.size) (by rw [HZT.out, HTL.out]; kernel_rfl) ?_
    refine hK _ _ ?_
    clear hK K
    try simp only [Act.put, LT1, LT2, LT3]
    refine Gl.wpAny_only (i := 13) (by kernel_rfl) rfl rfl (fun K hK => ?_)
    refine wp_boxC 79 _ rfl (some 16) rfl (zt Y1.heap.size) rfl ?_
    refine hK _ _ ?_
    clear hK K
    try simp only [Act.put, LT1, LT2, LT3]
    refine Gl.wpAny_only (i := 14) (by kernel_rfl) rfl rfl (fun K hK => ?_)
    go_simp
    refine hK _ _ ?_
    clear hK K
    try simp only [Act.put, LT1, LT2, LT3]
    refine wpAny_done (by kernel_rfl) ?_ _
    go_wp2
    go_ret
    exact HFIN.out Y1 Y2 HM1.out HB1.out HR2.out HB2.out
   ·
    go_simp
    go_at_call 18
    refine HLG.mono ?_
    rintro e Y2 ⟨rfl, hR2, hb2⟩
    have HX2 := hide (HX1.out.on hb2)
    have HR2 := hide hR2
    have HB2 := hide hb2
    have c0 := keep_cell hb2 c0
    have c1 := keep_cell hb2 c1
    have c2 := keep_cell hb2 c2
    have rg2 := HRG Y2 HX2.out
    clear hR2 hb2
    go_simp
    refine hK _ _ ?_
    clear hK K
    try simp only [Act.put, LT1, LT2, LT3]
    refine Gl.wpAny_only (i := 3) (by kernel_rfl) rfl rfl (fun K hK => ?_)
    go_simp
    refine hK _ _ ?_
    clear hK K
    try simp only [Act.put, LT1, LT2, LT3]
    refine Gl.wpAny_only (i := 12) (by kernel_rfl) rfl rfl (fun K hK => ?_)
    refine wp_buildC 79 _ rfl (some 15) rfl (zt Y1.heap.size) (by rw [HZT.out, HTL.out]; kernel_rfl) ?_
    refine hK _ _ ?_
    clear hK K
    try simp only [Act.put, LT1, LT2, LT3]
    refine Gl.wpAny_only (i := 13) (by kernel_rfl) rfl rfl (fun K hK => ?_)
    refine wp_boxC 79 _ rfl (some 16) rfl (zt Y1.heap.size) rfl ?_
    refine hK _ _ ?_
    clear hK K
    try simp only [Act.put, LT1, LT2, LT3]
    refine Gl.wpAny_only (i := 14) (by kernel_rfl) rfl rfl (fun K hK => ?_)
    go_simp
    refine hK _ _ ?_
    clear hK K
    try simp only [Act.put, LT1, LT2, LT3]
    refine wpAny_done (by kernel_rfl) ?_ _
    go_wp2
    go_ret
    exact HFIN.out Y1 Y2 HM1.out HB1.out HR2.out HB2.out
  ·
   go_simp
   go_at_call 18
   refine HLG.mono ?_
   rintro e Y2 ⟨rfl, hR2, hb2⟩
   have HX2 := hide (HX1.out.on hb2)
   have HR2 := hide hR2
   have HB2 := hide hb2
   have c0 := keep_cell hb2 c0
   have c1 := keep_cell hb2 c1
   have c2 := keep_cell hb2 c2
   have rg2 := HRG Y2 HX2.out
   clear hR2 hb2
   go_simp
   refine hK _ _ ?_
   clear hK K
   try simp only [Act.put, LT1, LT2, LT3]
   refine wpAny_two (i := 3) (j := 9) (by kernel_rfl) rfl rfl rfl rfl (fun K hK => ?_) (fun K hK => ?_)
   ·
    go_simp
    refine hK _ _ ?_
    clear hK K
    try simp only [Act.put, LT1, LT2, LT3]
    refine Gl.wpAny_only (i := 9) (by kernel_rfl) rfl rfl (fun K hK => ?_)
    refine wp_load_mid (P := Tryz.prog) 77 _ rfl g 4 rfl tl _ rg2 Tryz.underlying77 rfl (by rw [htl]; exact size_threads) ?_
    refine hK _ _ ?_
    clear hK K
    try simp only [Act.put, LT1, LT2, LT3]
    refine Gl.wpAny_only (i := 12) (by kernel_rfl) rfl rfl (fun K hK => ?_)
    refine wp_buildC 79 _ rfl (some 15) rfl (zt Y1.heap.size) (by rw [HZT.out, HTL.out]; kernel_rfl) ?_
    refine hK _ _ ?_
    clear hK K
    try simp only [Act.put, LT1, LT2, LT3]
    refine Gl.wpAny_only (i := 13) (by kernel_rfl) rfl rfl (fun K hK => ?_)
    refine wp_boxC 79 _ rfl (some 16) rfl (zt Y1.heap.size) rfl ?_
    refine hK _ _ ?_
    clear hK K
    try simp only [Act.put, LT1, LT2, LT3]
    refine Gl.wpAny_only (i := 14) (by kernel_rfl) rfl rfl (fun K hK => ?_)
    go_simp
    refine hK _ _ ?_
    clear hK K
    try simp only [Act.put, LT1, LT2, LT3]
    refine wpAny_done (by kernel_rfl) ?_ _
    go_wp2
    go_ret
    exact HFIN.out Y1 Y2 HM1.out HB1.out HR2.out HB2.out
   ·
    refine wp_load_mid (P := Tryz.prog) 77 _ rfl g 4 rfl tl _ rg2 Tryz.underlying77 rfl (by rw [htl]; exact size_threads) ?_
    refine hK _ _ ?_
    clear hK K
    try simp only [Act.put, LT1, LT2, LT3]
    refine Gl.wpAny_only (i := 3) (by kernel_rfl) rfl rfl (fun K hK => ?_)
    go_simp
    refine hK _ _ ?_
    clear hK K
    try simp only [Act.put, LT1, LT2, LT3]
    refine Gl.wpAny_only (i := 12) (by kernel_rfl) rfl rfl (fun K hK => ?_)
    refine wp_buildC 79 _ rfl (some 15) rfl (zt Y1.heap.size) (by rw [HZT.out, HTL.out]; kernel_rfl) ?_
    refine hK _ _ ?_
    clear hK K
    try simp only [Act.put, LT1, LT2, LT3]
    refine Gl.wpAny_only (i := 13) (by kernel_rfl) rfl rfl (fun K hK => ?_)
    refine wp_boxC 79 _ rfl (some 16) rfl (zt Y1.heap.size) rfl ?_
    refine hK _ _ ?_
    clear hK K
    try simp only [Act.put, LT1, LT2, LT3]
    refine Gl.wpAny_only (i := 14) (by kernel_rfl) rfl rfl (fun K hK => ?_)
    go_simp
    refine hK _ _ ?_
    clear hK K
    try simp only [Act.put, LT1, LT2, LT3]
    refine wpAny_done (by kernel_rfl) ?_ _
    go_wp2
    go_ret
    exact HFIN.out Y1 Y2 HM1.out HB1.out HR2.out HB2.out
 ·
  refine wp_load_mid (P := Tryz.prog) 77 _ rfl g 4 rfl tl _ rg0 Tryz.underlying77 rfl (by rw [htl]; exact size_threads) ?_
  refine hK _ _ ?_
  clear hK K
  try simp only [Act.put, LT1, LT2, LT3]
  refine wpAny_two (i := 3) (j := 5) (by kernel_rfl) rfl rfl rfl rfl (fun K hK => ?_) (fun K hK => ?_)
  ·
   go_simp
   refine hK _ _ ?_
   clear hK K
   try simp only [Act.put, LT1, LT2, LT3]
   refine Gl.wpAny_only (i := 5) (by kernel_rfl) rfl rfl (fun K hK => ?_)
   go_simp
   go_at_call 24
   refine HMM.mono ?_
   rintro e Y1 ⟨rfl, hM1, hb1⟩
   have HX1 := hide (hX.on hb1)
   have HM1 := hide hM1
   have HB1 := hide hb1
   have c0 := keep_cell hb1 c0
   have c1 := keep_cell hb1 c1
   have c2 := keep_cell hb1 c2
   have rg1 := HRG Y1 HX1.out
   have HLG := wlog_any HX1.out hlog
   rw [← HLL.out] at HLG
   clear hM1 hb1
   go_simp
   refine hK _ _ ?_
   clear hK K
   try simp only [Act.put, LT1, LT2, LT3]
   refine Gl.wpAny_only (i := 11) (by kernel_rfl) rfl rfl (fun K hK => ?_)
   go_simp
   go_at_call 18
   refine HLG.mono ?_
   rintro e Y2 ⟨rfl, hR2, hb2⟩
   have HX2 := hide (HX1.out.on hb2)
   have HR2 := hide hR2
   have HB2 := hide hb2
   have c0 := keep_cell hb2 c0
   have c1 := keep_cell hb2 c1
   have c2 := keep_cell hb2 c2
   have rg2 := HRG Y2 HX2.out
   clear hR2 hb2
   go_simp
   refine hK _ _ ?_
   clear hK K
   try simp only [Act.put, LT1, LT2, LT3]
   refine Gl.wpAny_only (i := 12) (by kernel_rfl) rfl rfl (fun K hK => ?_)
   refine wp_buildC 79 _ rfl (some 15) rfl (zt Y1.heap.size) (by rw [HZT.out, HTL.out]; kernel_rfl) ?_
   refine hK _ _ ?_
   clear hK K
   try simp only [Act.put, LT1, LT2, LT3]
   refine Gl.wpAny_only (i := 13) (by kernel_rfl) rfl rfl (fun K hK => ?_)
   refine wp_boxC 79 _ rfl (some 16) rfl (zt Y1.heap.size) rfl ?_
   refine hK _ _ ?_
   clear hK K
   try simp only [Act.put, LT1, LT2, LT3]
   refine Gl.wpAny_only (i := 14) (by kernel_rfl) rfl rfl (fun K hK => ?_)
   go_simp
   refine hK _ _ ?_
   clear hK K
   try simp only [Act.put, LT1, LT2, LT3]
   refine wpAny_done (by kernel_rfl) ?_ _
   go_wp2
   go_ret
   exact HFIN.out Y1 Y2 HM1.out HB1.out HR2.out HB2.out
  ·
   go_simp
   go_at_call 24
   refine HMM.mono ?_
   rintro e Y1 ⟨rfl, hM1, hb1⟩
   have HX1 := hide (hX.on hb1)
   have HM1 := hide hM1
   have HB1 := hide hb1
   have c0 := keep_cell hb1 c0
   have c1 := keep_cell hb1 c1
   have c2 := keep_cell hb1 c2
   have rg1 := HRG Y1 HX1.out
   have HLG := wlog_any HX1.out hlog
   rw [← HLL.out] at HLG
   clear hM1 hb1
   go_simp
   refine hK _ _ ?_
   clear hK K
   try simp only [Act.put, LT1, LT2, LT3]
   refine wpAny_two (i := 3) (j := 11) (by kernel_rfl) rfl rfl rfl rfl (fun K hK => ?_) (fun K hK => ?_)
   ·
    go_simp
    refine hK _ _ ?_
    clear hK K
    try simp only [Act.put, LT1, LT2, LT3]
    refine Gl.wpAny_only (i := 11) (by kernel_rfl) rfl rfl (fun K hK => ?_)
    go_simp
    go_at_call 18
    refine HLG.mono ?_
    rintro e Y2 ⟨rfl, hR2, hb2⟩
    have HX2 := hide (HX1.out.on hb2)
    have HR2 := hide hR2
    have HB2 := hide hb2
    have c0 := keep_cell hb2 c0
    have c1 := keep_cell hb2 c1
    have c2 := keep_cell hb2 c2
    have rg2 := HRG Y2 HX2.out
    clear hR2 hb2
    go_simp
    refine hK _ _ ?_
    clear hK K
    try simp only [Act.put, LT1, LT2, LT3]
    refine Gl.wpAny_only (i := 12) (by kernel_rfl) rfl rfl (fun K hK => ?_)
    refine wp_buildC 79 _ rfl (some 15) rfl (zt Y1.heap.size) (by rw [HZT.out, HTL.out]; kernel_rfl) ?_
    refine hK _ _ ?_
    clear hK K
    try simp only [Act.put, LT1, LT2, LT3]
    refine Gl.wpAny_only (i := 13) (by kernel_rfl) rfl rfl (fun K hK => ?_)
    refine wp_boxC 79 _ rfl (some 16) rfl (zt Y1.heap.size) rfl ?_
    refine hK _ _ ?_
    clear hK K
    try simp only [Act.put, LT1, LT2, LT3]
    refine Gl.wpAny_only (i := 14) (by kernel_rfl) rfl rfl (fun K hK => ?_)
    go_simp
    refine hK _ _ ?_
    clear hK K
    try simp only [Act.put, LT1, LT2, LT3]
    refine wpAny_done (by kernel_rfl) ?_ _
    go_wp2
    go_ret
    exact HFIN.out Y1 Y2 HM1.out HB1.out HR2.out HB2.out
   ·
    go_simp
    go_at_call 18
    refine HLG.mono ?_
    rintro e Y2 ⟨rfl, hR2, hb2⟩
    have HX2 := hide (HX1.out.on hb2)
    have HR2 := hide hR2
    have HB2 := hide hb2
    have c0 := keep_cell hb2 c0
    have c1 := keep_cell hb2 c1
    have c2 := keep_cell hb2 c2
    have rg2 := HRG Y2 HX2.out
    clear hR2 hb2
    go_simp
    refine hK _ _ ?_
    clear hK K
    try simp only [Act.put, LT1, LT2, LT3]
    refine Gl.wpAny_only (i := 3) (by kernel_rfl) rfl rfl (fun K hK => ?_)
    go_simp
    refine hK _ _ ?_
    clear hK K
    try simp only [Act.put, LT1, LT2, LT3]
    refine Gl.wpAny_only (i := 12) (by kernel_rfl) rfl rfl (fun K hK => ?_)
    refine wp_buildC 79 _ rfl (some 15) rfl (zt Y1.heap.size) (by rw [HZT.out, HTL.out]; kernel_rfl) ?_
    refine hK _ _ ?_
    clear hK K
    try simp only [Act.put, LT1, LT2, LT3]
    refine Gl.wpAny_only (i := 13) (by kernel_rfl) rfl rfl (fun K hK => ?_)
    refine wp_boxC 79 _ rfl (some 16) rfl (zt Y1.heap.size) rfl ?_
    refine hK _ _ ?_
    clear hK K
    try simp only [Act.put, LT1, LT2, LT3]
    refine Gl.wpAny_only (i := 14) (by kernel_rfl) rfl rfl (fun K hK => ?_)
    go_simp
    refine hK _ _ ?_
    clear hK K
    try simp only [Act.put, LT1, LT2, LT3]
    refine wpAny_done (by kernel_rfl) ?_ _
    go_wp2
    go_ret
    exact HFIN.out Y1 Y2 HM1.out HB1.out HR2.out HB2.out
end Go.Proofs.YtklibmijiecbfaaGreat

/- The two wards side by side in one world. -/
namespace Go.Proofs.YtklibmijiecbfaaGreat
open Go.RowKit Mm

def InC (g gm : Nat) (lv : Value) (k : Nat) : Prop := k = g ∨ k = gm ∨ lv.ownBlock = some k
def InD (g : Nat) (sv : Nat → Value) (lv : Value) (k : Nat) : Prop := k = g ∨ lv.ownBlock = some k ∨ ∃ n, n < 3 ∧ (sv n).ownBlock = some k
structure Tch (T : Nat → Prop) (X Y : World) : Prop where
 os : Y.os = X.os
 tape : Y.tape = X.tape
 output : Y.output = X.output
 size : X.heap.size ≤ Y.heap.size
 block : ∀ k, k < X.heap.size → ¬ T k → Y.heap[k]? = X.heap[k]?
theorem Fr.tch {g gm : Nat} {lv lv' : Value} {X Y : World} (h : Fr g gm lv lv' X Y) : Tch (InC g gm lv) X Y :=
 ⟨h.os, h.tape, h.output, h.size, fun k hk hn => h.block k hk (fun e => hn (.inl e)) (fun e => hn (.inr (.inl e))) (fun e => hn (.inr (.inr e)))⟩
theorem DFr.tch {g : Nat} {sv sv' : Nat → Value} {lv lv' : Value} {X Y : World} (h : DFr g sv lv sv' lv' X Y) : Tch (InD g sv lv) X Y :=
 ⟨h.os, h.tape, h.output, h.size, fun k hk hn => h.block k hk (fun e => hn (.inl e)) (fun e => hn (.inr (.inl e))) (fun n h3 e => hn (.inr (.inr ⟨n, h3, e⟩)))⟩
theorem ownsRow_heap {W V : World} {base e size n : Nat} {v : Value} {xs : List Value} (h : W.ownsRow base e size v n xs) (hb : ∀ k, v.ownBlock = some k → V.heap[k]? = W.heap[k]?) : V.ownsRow base e size v n xs := by
 obtain ⟨h1, h2⟩ := h
 refine ⟨h1, ?_⟩
 rcases h2 with h2 | ⟨gl, cap, cur, rfl, h3, hrow, h4⟩
 ·
  exact .inl h2
 ·
  exact .inr ⟨gl, cap, cur, rfl, h3, (hb gl rfl).trans hrow, h4⟩
theorem WX.inlt {g gm : Nat} {P : PV} {s : WS} {lv : Value} {X : World} (h : WX g gm P s lv X) {k : Nat} (hk : InC g gm lv k) : k < X.heap.size := by
 rcases hk with rfl | rfl | hk
 ·
  exact h.glt
 ·
  exact h.mlt
 ·
  exact (h.own.lt k hk).2
theorem DX.inlt {g : Nat} {P : PV} {d : DWS} {sv : Nat → Value} {lv : Value} {X : World} (h : DX g P d sv lv X) {k : Nat} (hk : InD g sv lv k) : k < X.heap.size := by
 rcases hk with rfl | hk | ⟨n, hn, hk⟩
 ·
  exact h.glt
 ·
  exact (h.own.lt k hk).2
 ·
  exact ((h.sls n hn).lt k hk).2
theorem WX.keep {g gm : Nat} {P : PV} {s : WS} {lv : Value} {X Y : World} {T : Nat → Prop} (h : WX g gm P s lv X) (ht : Tch T X Y) (hd : ∀ k, T k → ¬ InC g gm lv k ∧ P.bd ≤ k) : WX g gm P s lv Y := by
 have hb : ∀ k, InC g gm lv k → Y.heap[k]? = X.heap[k]? := fun k hk => ht.block k (h.inlt hk) (fun e => (hd k e).1 hk)
 have hbd := h.bd
 exact ⟨(hb g (.inl rfl)).trans h.row, (hb gm (.inr (.inl rfl))).trans h.mem, ownsRow_heap h.own (fun k hk => hb k (.inr (.inr hk))), h.ne, h.nl, Nat.le_trans h.bd ht.size, fun U hU hs => h.pol U (fun k hk n1 n2 n3 => (hU k hk n1 n2 n3).trans (ht.block k (by omega) (fun e => by have := (hd k e).2; omega))) hs⟩
theorem DX.keep {g : Nat} {P : PV} {d : DWS} {sv : Nat → Value} {lv : Value} {X Y : World} {T : Nat → Prop} (h : DX g P d sv lv X) (ht : Tch T X Y) (hd : ∀ k, T k → ¬ InD g sv lv k ∧ P.bd ≤ k) : DX g P d sv lv Y := by
 have hb : ∀ k, InD g sv lv k → Y.heap[k]? = X.heap[k]? := fun k hk => ht.block k (h.inlt hk) (fun e => (hd k e).1 hk)
 have hbd := h.bd
 exact ⟨h.mem.imp fun r hr => ⟨(hb g (.inl rfl)).trans hr.1, hr.2⟩, ownsRow_heap h.own (fun k hk => hb k (.inr (.inl hk))), fun n hn => ownsRow_heap (h.sls n hn) (fun k hk => hb k (.inr (.inr ⟨n, hn, hk⟩))), h.nl, h.ap, Nat.le_trans h.bd ht.size, fun U hU hs => h.pol U (fun k hk n1 n2 n3 => (hU k hk n1 n2 n3).trans (ht.block k (by omega) (fun e => by have := (hd k e).2; omega))) hs⟩
theorem Tch.below {T : Nat → Prop} {V X Y : World} (h : Tch T X Y) (hb : Below V.heap.size V X) (hd : ∀ k, T k → V.heap.size ≤ k) : Below V.heap.size V Y :=
 hb.trans ⟨h.os, h.tape, h.output, h.size, fun k hk => h.block k (Nat.lt_of_lt_of_le hk hb.size) (fun e => by have := hd k e; omega)⟩
structure BW (p : POL) (V : World) (g gm : Nat) (P : PV) (lv : Value) (s : WS) (K : Nat) (gd : Nat) (Q : PV) (sv : Nat → Value) (ld : Value) (d : DWS) (X : World) : Prop where
 w : WX g gm P s lv X
 pp : P.p = p
 qp : Q.p = p
 inv : Inv p s
 log : s.log.length ≤ K
 below : Below V.heap.size V X
 dx : DX gd Q d sv ld X
 vb : Q.bd ≤ V.heap.size ∧ V.heap.size ≤ P.bd
 cl : ∀ k, InC g gm lv k → P.bd ≤ k
 dl : ∀ k, InD gd sv ld k → P.bd ≤ k
 ap : ∀ k, InC g gm lv k → ¬ InD gd sv ld k
theorem BW.code {p : POL} {V : World} {g gm : Nat} {P : PV} {lv lv' : Value} {s s' : WS} {K K' : Nat} {gd : Nat} {Q : PV} {sv : Nat → Value} {ld : Value} {d : DWS} {X Y : World} (h : BW p V g gm P lv s K gd Q sv ld d X) (hw : WX g gm P s' lv' Y) (hf : Fr g gm lv lv' X Y) (hi : Inv p s') (hl : s'.log.length ≤ K') : BW p V g gm P lv' s' K' gd Q sv ld d Y := by
 have ht := hf.tch
 have hv := h.vb
 have hbd := h.w.bd
 have hn : ∀ k, InC g gm lv' k → InC g gm lv k ∨ X.heap.size ≤ k := fun k hk => by
  rcases hk with rfl | rfl | hk
  ·
   exact .inl (.inl rfl)
  ·
   exact .inl (.inr (.inl rfl))
  ·
   exact (hf.new k hk).imp (fun e => .inr (.inr e)) id
 refine ⟨hw, h.pp, h.qp, hi, hl, ht.below h.below (fun k hk => Nat.le_trans hv.2 (h.cl k hk)), h.dx.keep ht (fun k hk => ⟨h.ap k hk, by have := h.cl k hk; omega⟩), hv, fun k hk => ?_, h.dl, fun k hk hd => ?_⟩
 ·
  rcases hn k hk with h1 | h1
  ·
   exact h.cl k h1
  ·
   omega
 ·
  rcases hn k hk with h1 | h1
  ·
   exact h.ap k h1 hd
  ·
   have := h.dx.inlt hd; omega
theorem BW.doc {p : POL} {V : World} {g gm : Nat} {P : PV} {lv : Value} {s : WS} {K : Nat} {gd : Nat} {Q : PV} {sv sv' : Nat → Value} {ld ld' : Value} {d d' : DWS} {X Y : World} (h : BW p V g gm P lv s K gd Q sv ld d X) (hx : DX gd Q d' sv' ld' Y) (hf : DFr gd sv ld sv' ld' X Y) : BW p V g gm P lv s K gd Q sv' ld' d' Y := by
 have ht := hf.tch
 have hv := h.vb
 have hbd := h.w.bd
 have hn : ∀ k, InD gd sv' ld' k → InD gd sv ld k ∨ X.heap.size ≤ k := fun k hk => by
  rcases hk with rfl | hk | ⟨n, h3, hk⟩
  ·
   exact .inl (.inl rfl)
  ·
   exact (hf.newl k hk).imp (fun e => .inr (.inl e)) id
  ·
   exact (hf.news n h3 k hk).imp (fun e => .inr (.inr ⟨n, h3, e⟩)) id
 refine ⟨h.w.keep ht (fun k hk => ⟨fun hc => h.ap k hc hk, h.dl k hk⟩), h.pp, h.qp, h.inv, h.log, ht.below h.below (fun k hk => Nat.le_trans hv.2 (h.dl k hk)), hx, hv, h.cl, fun k hk => ?_, fun k hc hk => ?_⟩
 ·
  rcases hn k hk with h1 | h1
  ·
   exact h.dl k h1
  ·
   omega
 ·
  rcases hn k hk with h1 | h1
  ·
   exact h.ap k hc h1
  ·
   have := h.w.inlt hc; omega
theorem BW.on {p : POL} {V : World} {g gm : Nat} {P : PV} {lv : Value} {s : WS} {K : Nat} {gd : Nat} {Q : PV} {sv : Nat → Value} {ld : Value} {d : DWS} {X Y : World} (h : BW p V g gm P lv s K gd Q sv ld d X) (hb : Below X.heap.size X Y) : BW p V g gm P lv s K gd Q sv ld d Y :=
 ⟨h.w.on hb, h.pp, h.qp, h.inv, h.log, below_next h.below hb, h.dx.on hb, h.vb, h.cl, h.dl, h.ap⟩
theorem BW.weak {p : POL} {V : World} {g gm : Nat} {P : PV} {lv : Value} {s : WS} {K K' : Nat} {gd : Nat} {Q : PV} {sv : Nat → Value} {ld : Value} {d : DWS} {X : World} (h : BW p V g gm P lv s K gd Q sv ld d X) (hk : K ≤ K') : BW p V g gm P lv s K' gd Q sv ld d X :=
 ⟨h.w, h.pp, h.qp, h.inv, Nat.le_trans h.log hk, h.below, h.dx, h.vb, h.cl, h.dl, h.ap⟩
structure BC (p : POL) (V : World) (g gm : Nat) (P : PV) (lv : Value) (s : WS) (K : Nat) (gd : Nat) (Q : PV) (sv : Nat → Value) (ld : Value) (d : DWS) (g' gm' : Nat) (lc : Value) (s' : WS) (X : World) : Prop where
 b : BW p V g gm P lv s K gd Q sv ld d X
 c : WX g' gm' P s' lc X
 inv : Inv p s'
 cl : ∀ k, InC g' gm' lc k → P.bd ≤ k ∧ ¬ InC g gm lv k ∧ ¬ InD gd sv ld k
theorem BC.start {p : POL} {V : World} {g gm : Nat} {P : PV} {lv : Value} {s : WS} {K : Nat} {gd : Nat} {Q : PV} {sv : Nat → Value} {ld : Value} {d : DWS} {g' gm' : Nat} {lc : Value} {X Y : World} (h : BW p V g gm P lv s K gd Q sv ld d X) (hc : CWX g' gm' P s lc X Y) : BC p V g gm P lv s K gd Q sv ld d g' gm' lc s Y := by
 have hbd := h.w.bd
 refine ⟨h.on hc.below, hc.ward, h.inv, fun k hk => ?_⟩
 have hX : X.heap.size ≤ k := by
  rcases hk with rfl | rfl | hk
  ·
   exact hc.g
  ·
   exact hc.m
  ·
   exact hc.l k hk
 exact ⟨by omega, fun e => by have := h.w.inlt e; omega, fun e => by have := h.dx.inlt e; omega⟩
theorem BC.code {p : POL} {V : World} {g gm : Nat} {P : PV} {lv lv' : Value} {s s2 : WS} {K K' : Nat} {gd : Nat} {Q : PV} {sv : Nat → Value} {ld : Value} {d : DWS} {g' gm' : Nat} {lc : Value} {s' : WS} {X Y : World} (h : BC p V g gm P lv s K gd Q sv ld d g' gm' lc s' X) (hw : WX g gm P s2 lv' Y) (hf : Fr g gm lv lv' X Y) (hi : Inv p s2) (hl : s2.log.length ≤ K') : BC p V g gm P lv' s2 K' gd Q sv ld d g' gm' lc s' Y := by
 refine ⟨h.b.code hw hf hi hl, h.c.keep hf.tch (fun k hk => ⟨fun hc => (h.cl k hc).2.1 hk, h.b.cl k hk⟩), h.inv, fun k hk => ⟨(h.cl k hk).1, fun e => ?_, (h.cl k hk).2.2⟩⟩
 rcases e with rfl | rfl | e
 ·
  exact (h.cl _ hk).2.1 (.inl rfl)
 ·
  exact (h.cl _ hk).2.1 (.inr (.inl rfl))
 ·
  rcases hf.new k e with h1 | h1
  ·
   exact (h.cl k hk).2.1 (.inr (.inr h1))
  ·
   have := h.c.inlt hk; omega
theorem BC.take {p : POL} {V : World} {g gm : Nat} {P : PV} {lv : Value} {s : WS} {K K' : Nat} {gd : Nat} {Q : PV} {sv : Nat → Value} {ld : Value} {d : DWS} {g' gm' : Nat} {lc : Value} {s' : WS} {X : World} (h : BC p V g gm P lv s K gd Q sv ld d g' gm' lc s' X) (hl : s'.log.length ≤ K') : BW p V g' gm' P lc s' K' gd Q sv ld d X :=
 ⟨h.c, h.b.pp, h.b.qp, h.inv, hl, h.b.below, h.b.dx, h.b.vb, fun k hk => (h.cl k hk).1, h.b.dl, fun k hk => (h.cl k hk).2.2⟩
end Go.Proofs.YtklibmijiecbfaaGreat

/- Each act on memory, the code's and the document's, side by side. -/
namespace Go.Proofs.YtklibmijiecbfaaGreat.Bp
end Go.Proofs.YtklibmijiecbfaaGreat.Bp
namespace Go.Proofs.YtklibmijiecbfaaGreat.Mm
open Go.Proofs.YtklibmijiecbfaaGreat.Bp
open Go.RowKit

theorem PW_grown (B : MB) (m : MS) (k : Nat) : B.W.grownBy (PW B m k) (some B.g) :=
 ⟨rfl, rfl, rfl, by show B.W.heap.size ≤ (B.W.heap.modify _ _).size; rw [Array.size_modify]; exact Nat.le_refl _, fun j _ hne => by
  show (B.W.heap.modify _ _)[j]? = _
  rw [Array.getElem?_modify, if_neg (fun e => hne (by rw [e]))]⟩
def CodeC (fn : FuncId) (args : Array Value) (g : Nat) (m m' : MS) (v : Value) : Prop := ∀ W, IsM g m W → Calls Tryz.prog fn args W fun e w' => e = .returned v ∧ IsM g m' w' ∧ W.grownBy w' (some g)
theorem codeC_of {fn : FuncId} {args : Nat → Array Value} {g : Nat} {m m' : MS} {v : Value} (h : ∀ B : MB, Calls Tryz.prog fn (args B.g) (PW B m 0) fun e w' => e = .returned v ∧ ∃ k', w' = PW B m' k') : CodeC fn (args g) g m m' v := fun W hM => by
 have hc := h ⟨W, g, m, hM⟩
 rw [← PW_of hM] at hc
 exact hc.mono fun e w' ⟨he, k', hw⟩ => ⟨he, by rw [hw]; exact PW_isM _ _ _, by rw [hw]; exact PW_grown ⟨W, g, m, hM⟩ _ _⟩
theorem same_err (f : Nat) (w : World) : Calls Tryz.prog 10 #[errV f, .int .i64 f] w fun e w' => e = .returned (.bool true) ∧ w' = w := by
 by_cases h : f = 0
 ·
  subst h
  exact (same_nil 0 w).mono fun e w' ⟨he, hw⟩ => ⟨he, hw⟩
 ·
  rw [errV_pos h]
  refine (same_errno f f w).mono fun e w' ⟨he, hw⟩ => ⟨?_, hw⟩
  rw [he]
  congr 2
  simp
  omega
end Go.Proofs.YtklibmijiecbfaaGreat.Mm

/- asMem, stays. -/
namespace Go.Proofs.YtklibmijiecbfaaGreat.Bp
end Go.Proofs.YtklibmijiecbfaaGreat.Bp
namespace Go.Proofs.YtklibmijiecbfaaGreat.Mm
open Go.Proofs.YtklibmijiecbfaaGreat.Bp
open Go.RowKit

structure Kp (g h : Nat) (W w' : World) : Prop where
 os : w'.os = W.os
 tape : w'.tape = W.tape
 output : w'.output = W.output
 size : W.heap.size ≤ w'.heap.size
 block : ∀ j, j < W.heap.size → j ≠ g → j ≠ h → w'.heap[j]? = W.heap[j]?
theorem Kp.trans {g h : Nat} {a b c : World} (x : Kp g h a b) (y : Kp g h b c) : Kp g h a c :=
 ⟨y.os.trans x.os, y.tape.trans x.tape, y.output.trans x.output, Nat.le_trans x.size y.size, fun j hj h1 h2 => (y.block j (Nat.lt_of_lt_of_le hj x.size) h1 h2).trans (x.block j hj h1 h2)⟩
theorem Kp.ofG {g h : Nat} {W w' : World} (x : W.grownBy w' (some g)) : Kp g h W w' := ⟨x.os, x.tape, x.output, x.size, fun j hj h1 _ => x.block j hj fun e => h1 (Option.some.inj e)⟩
theorem Kp.ofH {g h : Nat} {W w' : World} (x : W.grownBy w' (some h)) : Kp g h W w' := ⟨x.os, x.tape, x.output, x.size, fun j hj _ h2 => x.block j hj fun e => h2 (Option.some.inj e)⟩
theorem IsM.keep {g h : Nat} {m : MS} {W w' : World} (x : IsM g m W) (y : W.grownBy w' (some h)) (hne : g ≠ h) : IsM g m w' := (y.block g x.lt fun e => hne (Option.some.inj e)).trans x

end Go.Proofs.YtklibmijiecbfaaGreat.Mm

/- A struct is equal to itself. -/
namespace Go.Proofs.YtklibmijiecbfaaGreat
open Go.RowKit Mm

def PartSelf (d : Nat) (t : TypeId) (xs : Array Value) (off : Nat) : Prop := ∃ v, (∀ w : World, (part t xs off).run Tryz.prog w = .ok v w) ∧ ∀ w : World, (Op.equalIn d t v v).run Tryz.prog w = .ok true w
theorem self_fields (d : Nat) (xs : Array Value) : ∀ (fs : List Field), (∀ f ∈ fs, PartSelf d f.type xs f.offset) → ∀ w : World, (Op.eqFields d xs xs fs).run Tryz.prog w = .ok true w
 | [], _, w => by simp [Op.eqFields]
 | f :: fs, h, w => by
  obtain ⟨v, h1, h2⟩ := h f (by simp)
  have ih := self_fields d xs fs (fun g hg => h g (by simp [hg])) w
  simp only [Op.eqFields, Sem.run_bind, Sem.run_ite, h1, h2, Result.andThen_ok, Bool.not_true, Bool.false_eq_true, if_false, ih]
  split <;> rfl
theorem self_struct {d : Nat} {t : TypeId} {xs : Array Value} {fs : List Field} (ht : Tryz.prog.underlying t = some (.struct (Tryz.prog.fieldsOf t))) (hp : Tryz.prog.stoodInHeld t = false) (hf : (Tryz.prog.fieldsOf t).toList = fs) (h : ∀ f ∈ fs, PartSelf d f.type xs f.offset) (w : World) : (Op.equalIn (d + 1) t (.agg xs) (.agg xs)).run Tryz.prog w = .ok true w := by
 rw [run_equalIn_struct w d t xs xs ht hp, hf]
 exact self_fields d xs fs h w
theorem part_one {d : Nat} {t : TypeId} {xs : Array Value} {off : Nat} {v : Value} (ha : ∀ w : World, (isAgg t).run Tryz.prog w = .ok false w) (hv : xs[off]? = some v) (hs : ∀ w : World, (Op.equalIn d t v v).run Tryz.prog w = .ok true w) : PartSelf d t xs off :=
 ⟨v, fun w => by simp [part, ha, hv], hs⟩
theorem self_four {d : Nat} {t elem : TypeId} {xs : Array Value} {n : Nat} (hu : Tryz.prog.underlying t = some (.array 4 elem)) (hs : (Tryz.prog.info? elem).map (·.size) = some n) (h : ∀ i, i < 4 → PartSelf d elem xs (i * n)) (w : World) : (Op.equalIn (d + 1) t (.agg xs) (.agg xs)).run Tryz.prog w = .ok true w := by
 obtain ⟨v0, a0, b0⟩ := h 0 (by omega)
 obtain ⟨v1, a1, b1⟩ := h 1 (by omega)
 obtain ⟨v2, a2, b2⟩ := h 2 (by omega)
 obtain ⟨v3, a3, b3⟩ := h 3 (by omega)
 rw [Nat.zero_mul] at a0
 rw [Nat.one_mul] at a1
 cases hq : Tryz.prog.info? elem with
 | none => simp [hq] at hs
 | some i =>
  have hi : i.size = n := by simpa [hq] using hs
  have hsz : ∀ w : World, (sizeOf elem).run Tryz.prog w = .ok n w := fun w => by simp [sizeOf, typeInfo, hq, hi]
  simp only [Op.equalIn, Sem.run_bind, run_underlying hu, Result.andThen_ok, hsz]
  simp [List.range', a0, a1, a2, a3, b0, b1, b2, b3, Result.andThen]
theorem self_struct' {d : Nat} {t : TypeId} {xs : Array Value} {fs : Array Field} (hu : Tryz.prog.underlying t = some (.struct fs)) (hp : Tryz.prog.stoodInHeld t = false) (h : ∀ f ∈ fs.toList, PartSelf d f.type xs f.offset) (w : World) : (Op.equalIn (d + 1) t (.agg xs) (.agg xs)).run Tryz.prog w = .ok true w := by
 have hf : Tryz.prog.fieldsOf t = fs := by unfold Program.fieldsOf; rw [hu]
 exact self_struct (by rw [hf]; exact hu) hp (by rw [hf]) h w
theorem part_agg {d : Nat} {t : TypeId} {xs : Array Value} {off n : Nat} (ha : ∀ w : World, (isAgg t).run Tryz.prog w = .ok true w) (hs : (Tryz.prog.info? t).map (·.size) = some n) {ys : Array Value} (hy : xs.extract off (off + n) = ys) (h : ∀ w : World, (Op.equalIn d t (.agg ys) (.agg ys)).run Tryz.prog w = .ok true w) : PartSelf d t xs off := by
 cases hq : Tryz.prog.info? t with
 | none => simp [hq] at hs
 | some i =>
  have hi : i.size = n := by simpa [hq] using hs
  have hsz : ∀ w : World, (sizeOf t).run Tryz.prog w = .ok n w := fun w => by simp [sizeOf, typeInfo, hq, hi]
  exact ⟨.agg ys, fun w => by simp [part, ha, hsz, hy], h⟩
theorem self_int {d : Nat} {t : TypeId} {k' : IntKind} (hu : Tryz.prog.underlying t = some (.int k')) (k : IntKind) (a : Int) (w : World) : (Op.equalIn (d + 1) t (.int k a) (.int k a)).run Tryz.prog w = .ok true w := by
 rw [run_equalIn_int w d t k k' a a hu, beq_self_eq_true]
theorem self_str {d : Nat} {t : TypeId} (hu : Tryz.prog.underlying t = some .string) (a : ByteArray) (w : World) : (Op.equalIn (d + 1) t (.string a) (.string a)).run Tryz.prog w = .ok true w := by
 rw [run_equalIn_string w d t a a hu, beq_self_eq_true]
theorem na_int : ∀ w : World, (isAgg 3).run Tryz.prog w = .ok false w := fun w => by kernel_rfl
theorem na_u32 : ∀ w : World, (isAgg 43).run Tryz.prog w = .ok false w := fun w => by kernel_rfl
theorem na_u64 : ∀ w : World, (isAgg 42).run Tryz.prog w = .ok false w := fun w => by kernel_rfl
theorem na_str : ∀ w : World, (isAgg 9).run Tryz.prog w = .ok false w := fun w => by kernel_rfl
theorem ag_call : ∀ w : World, (isAgg 52).run Tryz.prog w = .ok true w := fun w => by kernel_rfl
theorem ag_arr : ∀ w : World, (isAgg 50).run Tryz.prog w = .ok true w := fun w => by kernel_rfl
theorem ag_vals : ∀ w : World, (isAgg 68).run Tryz.prog w = .ok true w := fun w => by kernel_rfl
theorem ag_value : ∀ w : World, (isAgg 66).run Tryz.prog w = .ok true w := fun w => by kernel_rfl
theorem call_fs : ∃ f0 f1 f2 : Field, Tryz.prog.underlying 52 = some (.struct #[f0, f1, f2]) ∧ (f0.type = 43 ∧ f1.type = 43 ∧ f2.type = 50) ∧ (f0.offset = 0 ∧ f1.offset = 1 ∧ f2.offset = 2) :=
 ⟨_, _, _, Tryz.underlying52, ⟨by kernel_rfl, by kernel_rfl, by kernel_rfl⟩, by kernel_rfl, by kernel_rfl, by kernel_rfl⟩
theorem value_fs : ∃ f0 f1 f2 : Field, Tryz.prog.underlying 66 = some (.struct #[f0, f1, f2]) ∧ (f0.type = 9 ∧ f1.type = 43 ∧ f2.type = 3) ∧ (f0.offset = 0 ∧ f1.offset = 1 ∧ f2.offset = 2) :=
 ⟨_, _, _, Tryz.underlying66, ⟨by kernel_rfl, by kernel_rfl, by kernel_rfl⟩, by kernel_rfl, by kernel_rfl, by kernel_rfl⟩
theorem entry_fs : ∃ f0 f1 f2 f3 f4 : Field, Tryz.prog.underlying 70 = some (.struct #[f0, f1, f2, f3, f4]) ∧ (f0.type = 3 ∧ f1.type = 3 ∧ f2.type = 52 ∧ f3.type = 68 ∧ f4.type = 3) ∧ (f0.offset = 0 ∧ f1.offset = 1 ∧ f2.offset = 2 ∧ f3.offset = 8 ∧ f4.offset = 20) :=
 ⟨_, _, _, _, _, Tryz.underlying70, ⟨by kernel_rfl, by kernel_rfl, by kernel_rfl, by kernel_rfl, by kernel_rfl⟩, by kernel_rfl, by kernel_rfl, by kernel_rfl, by kernel_rfl, by kernel_rfl⟩
theorem self_call (d : Nat) (c : KL) (w : World) : (Op.equalIn (d + 3) 52 (.agg (klC c)) (.agg (klC c))).run Tryz.prog w = .ok true w := by
 obtain ⟨f0, f1, f2, hu, ⟨t0, t1, t2⟩, o0, o1, o2⟩ := call_fs
 refine self_struct' hu (by kernel_rfl) (fun f hf => ?_) w
 simp only [List.mem_cons, List.not_mem_nil, or_false] at hf
 rcases hf with rfl | rfl | rfl
 ·
  rw [t0, o0]; exact part_one na_u32 rfl (self_int Tryz.underlying43 _ _)
 ·
  rw [t1, o1]; exact part_one na_u32 rfl (self_int Tryz.underlying43 _ _)
 ·
  rw [t2, o2]
  refine part_agg (n := 4) ag_arr (by kernel_rfl) (ys := #[.int .u64 c.a0, .int .u64 c.a1, .int .u64 c.a2, .int .u64 c.a3]) rfl (self_four Tryz.underlying50 (n := 1) (by kernel_rfl) fun i hi => ?_)
  rcases show i = 0 ∨ i = 1 ∨ i = 2 ∨ i = 3 by omega with rfl | rfl | rfl | rfl <;> exact part_one na_u64 rfl (self_int Tryz.underlying42 _ _)
theorem self_value (d : Nat) (v : VL) (w : World) : (Op.equalIn (d + 2) 66 (.agg (vlC v)) (.agg (vlC v))).run Tryz.prog w = .ok true w := by
 obtain ⟨f0, f1, f2, hu, ⟨t0, t1, t2⟩, o0, o1, o2⟩ := value_fs
 refine self_struct' hu (by kernel_rfl) (fun f hf => ?_) w
 simp only [List.mem_cons, List.not_mem_nil, or_false] at hf
 rcases hf with rfl | rfl | rfl
 ·
  rw [t0, o0]; exact part_one na_str rfl (self_str Tryz.underlying9 _)
 ·
  rw [t1, o1]; exact part_one na_u32 rfl (self_int Tryz.underlying43 _ _)
 ·
  rw [t2, o2]; exact part_one na_int rfl (self_int Tryz.underlying3 _ _)
theorem self_entry (d : Nat) (e : EN) (w : World) : (Op.equalIn (d + 4) 70 (.agg (entE e)) (.agg (entE e))).run Tryz.prog w = .ok true w := by
 obtain ⟨f0, f1, f2, f3, f4, hu, ⟨t0, t1, t2, t3, t4⟩, o0, o1, o2, o3, o4⟩ := entry_fs
 refine self_struct' hu (by kernel_rfl) (fun f hf => ?_) w
 simp only [List.mem_cons, List.not_mem_nil, or_false] at hf
 rcases hf with rfl | rfl | rfl | rfl | rfl
 ·
  rw [t0, o0]; exact part_one na_int rfl (self_int Tryz.underlying3 _ _)
 ·
  rw [t1, o1]; exact part_one na_int rfl (self_int Tryz.underlying3 _ _)
 ·
  rw [t2, o2]
  exact part_agg (n := 6) ag_call (by kernel_rfl) (ys := klC e.call) rfl (self_call d e.call)
 ·
  rw [t3, o3]
  refine part_agg (n := 12) ag_vals (by kernel_rfl) (ys := #[.string e.vals.v0.path, .int .u32 e.vals.v0.ip, .int .i64 e.vals.v0.port, .string e.vals.v1.path, .int .u32 e.vals.v1.ip, .int .i64 e.vals.v1.port, .string e.vals.v2.path, .int .u32 e.vals.v2.ip, .int .i64 e.vals.v2.port, .string e.vals.v3.path, .int .u32 e.vals.v3.ip, .int .i64 e.vals.v3.port]) rfl (self_four Tryz.underlying68 (n := 3) (by kernel_rfl) fun i hi => ?_)
  rcases show i = 0 ∨ i = 1 ∨ i = 2 ∨ i = 3 by omega with rfl | rfl | rfl | rfl
  ·
   exact part_agg (n := 3) ag_value (by kernel_rfl) (ys := vlC e.vals.v0) rfl (self_value d _)
  ·
   exact part_agg (n := 3) ag_value (by kernel_rfl) (ys := vlC e.vals.v1) rfl (self_value d _)
  ·
   exact part_agg (n := 3) ag_value (by kernel_rfl) (ys := vlC e.vals.v2) rfl (self_value d _)
  ·
   exact part_agg (n := 3) ag_value (by kernel_rfl) (ys := vlC e.vals.v3) rfl (self_value d _)
 ·
  rw [t4, o4]; exact part_one na_int rfl (self_int Tryz.underlying3 _ _)
theorem neq_entry (e : EN) (w : World) : (binOp .neq 70 (.agg (entE e)) (.agg (entE e))).run Tryz.prog w = .ok (.bool false) w := by
 rw [run_neq_struct, self_entry 9996 e w]
 rfl
end Go.Proofs.YtklibmijiecbfaaGreat

/- The walk of TopEnds. -/
namespace Go.Proofs.YtklibmijiecbfaaGreat
open Go.RowKit Mm

theorem wp_neq_self {o : Oper} {a : Act} {w : World} {K : Act → World → Prop} {Q : Exit → Act → World → Prop} (t : TypeId) (x y : Operand) (t2 : TypeId) (ho : o.op = .binOp .neq t x y t2) (xs : Array Value) (hx : a.eval x = .agg xs) (hy : a.eval y = .agg xs)
  (hg : (eqGuard .neq t x y (.agg xs) (.agg xs)).run Tryz.prog w = .ok () w) (h : (binOp .neq t (.agg xs) (.agg xs)).run Tryz.prog w = .ok (.bool false) w) (hK : K (a.put o.dst (.bool false)) w) : o.wp Tryz.prog a w K Q := by
 unfold Oper.wp execOp
 simp only [ho, hx, hy, Sem.run_bind, hg, h, Result.andThen_ok]
 exact hK
end Go.Proofs.YtklibmijiecbfaaGreat

/- SameLog of two alike; entered. -/
namespace Go.Proofs.YtklibmijiecbfaaGreat
open Go.RowKit Mm

theorem log_range {W : World} {b : Nat} {l : List EN} (h : W.heap[b]? = some (.cells (flatE l).toArray 70 (0, 0))) {i : Nat} {e : EN} (he : l[i]? = some e) : W.rangeAt b (i * 21) (entE e).toList := fun j v hv => log_cell h he j (by exact (List.getElem?_eq_some_iff.1 hv).1) hv
end Go.Proofs.YtklibmijiecbfaaGreat
