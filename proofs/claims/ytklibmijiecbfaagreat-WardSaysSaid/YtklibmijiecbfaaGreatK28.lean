/- The document's Step: phases 1 and 3, and the others' frame. -/
import Derived.Test.YtklibmijiecbfaaGreatK18
import Derived.Test.YtklibmijiecbfaaGreatK20
import Derived.Test.YtklibmijiecbfaaGreatK22
import Derived.Test.YtklibmijiecbfaaGreatK25
import Derived.Test.YtklibmijiecbfaaGreatK27
namespace Go.Proofs.YtklibmijiecbfaaGreat
open Go.RowKit Mm

def DStepd (g : Nat) (P : PV) (d' : DWS) (sv : Nat → Value) (lv : Value) (W : World) (b : Bool) (f : Int) (e : Ending) (w' : World) : Prop := e = .returned (.tuple #[.bool b, .int .i64 f]) ∧ ∃ sv' lv', DX g P d' sv' lv' w' ∧ DFr g sv lv sv' lv' W w'
theorem dstep_bad {W : World} (g : Nat) (n : Int) (hf : ¬ (0 ≤ n ∧ n < 3)) :
  Calls Tryz.prog 38 #[.pointer (some ⟨g, 0, none⟩), .int .i64 n] W fun e w' => e = .returned (.tuple #[.bool false, .int .i64 1]) ∧ w' = W := by
 by_cases h0 : n < 0
 ·
  go_enter Tryz.func38, Tryz.ntmps38
  go_wp2
  go_ret2
  exact ⟨rfl, rfl⟩
 ·
  have h2 : 2 < n := by omega
  go_enter Tryz.func38, Tryz.ntmps38
  go_wp2
  go_ret2
  exact ⟨rfl, rfl⟩
theorem dstep_idle {g : Nat} {P : PV} {d : DWS} {sv : Nat → Value} {lv : Value} {W : World} (n : Nat) (hn : n < 3) (hq : (d.T n).phase = 0) (h : DX g P d sv lv W) :
  Calls Tryz.prog 38 #[.pointer (some ⟨g, 0, none⟩), .int .i64 n] W fun e w' => e = .returned (.tuple #[.bool false, .int .i64 0]) ∧ w' = W := by
 have j0 : ¬ (n : Int) < 0 := by omega
 have j1 : (0 : Int) ≤ n := by omega
 have j2 : ¬ (2 : Int) < n := by omega
 have j3 : (n : Int) < 3 := by omega
 have cp := h.phase n hn
 rw [hq] at cp
 clear h hq
 go_enter Tryz.func38, Tryz.ntmps38
 go_wp2
 go_ret2
 exact ⟨rfl, rfl⟩
theorem dstep_dead {g : Nat} {P : PV} {d : DWS} {sv : Nat → Value} {lv : Value} {W : World} (n : Nat) (hn : n < 3) (hq : (d.T n).phase = 6) (h : DX g P d sv lv W) :
  Calls Tryz.prog 38 #[.pointer (some ⟨g, 0, none⟩), .int .i64 n] W fun e w' => e = .returned (.tuple #[.bool false, .int .i64 8]) ∧ w' = W := by
 have j0 : ¬ (n : Int) < 0 := by omega
 have j1 : (0 : Int) ≤ n := by omega
 have j2 : ¬ (2 : Int) < n := by omega
 have j3 : (n : Int) < 3 := by omega
 have cp := h.phase n hn
 rw [hq] at cp
 clear h hq
 go_enter Tryz.func38, Tryz.ntmps38
 go_wp2
 go_ret2
 exact ⟨rfl, rfl⟩
theorem dstep_2 {g : Nat} {P : PV} {d : DWS} {sv : Nat → Value} {lv : Value} {W : World} {R : World → Prop} (n : Nat) (hn : n < 3) (hq : (d.T n).phase = 2) (h : DX g P d sv lv W)
  (HC : Calls Tryz.prog 68 #[.pointer (some ⟨g, 0, none⟩), .int .i64 n] W fun e w' => e = .returned (.tuple #[]) ∧ R w') :
  Calls Tryz.prog 38 #[.pointer (some ⟨g, 0, none⟩), .int .i64 n] W fun e w' => e = .returned (.tuple #[.bool true, .int .i64 0]) ∧ R w' := by
 have j0 : ¬ (n : Int) < 0 := by omega
 have j1 : (0 : Int) ≤ n := by omega
 have j2 : ¬ (2 : Int) < n := by omega
 have j3 : (n : Int) < 3 := by omega
 have cp := h.phase n hn
 rw [hq] at cp
 clear h hq
 go_enter Tryz.func38, Tryz.ntmps38
 go_wp2_with fail
 refine HC.mono ?_
 rintro e w' ⟨rfl, hR⟩
 go_wp2
 go_ret2
 exact ⟨rfl, hR⟩
theorem dstep_4 {g : Nat} {P : PV} {d : DWS} {sv : Nat → Value} {lv : Value} {W : World} {R : World → Prop} (n : Nat) (hn : n < 3) (hq : (d.T n).phase = 4) (h : DX g P d sv lv W)
  (HC : Calls Tryz.prog 70 #[.pointer (some ⟨g, 0, none⟩), .int .i64 n] W fun e w' => e = .returned (.tuple #[]) ∧ R w') :
  Calls Tryz.prog 38 #[.pointer (some ⟨g, 0, none⟩), .int .i64 n] W fun e w' => e = .returned (.tuple #[.bool true, .int .i64 0]) ∧ R w' := by
 have j0 : ¬ (n : Int) < 0 := by omega
 have j1 : (0 : Int) ≤ n := by omega
 have j2 : ¬ (2 : Int) < n := by omega
 have j3 : (n : Int) < 3 := by omega
 have cp := h.phase n hn
 rw [hq] at cp
 clear h hq
 go_enter Tryz.func38, Tryz.ntmps38
 go_wp2_with fail
 refine HC.mono ?_
 rintro e w' ⟨rfl, hR⟩
 go_wp2
 go_ret2
 exact ⟨rfl, hR⟩
theorem dstep_5 {g : Nat} {P : PV} {d : DWS} {sv : Nat → Value} {lv : Value} {W : World} {R : World → Prop} (n : Nat) (hn : n < 3) (hq : (d.T n).phase = 5) (h : DX g P d sv lv W)
  (HC : Calls Tryz.prog 71 #[.pointer (some ⟨g, 0, none⟩), .int .i64 n] W fun e w' => e = .returned (.tuple #[]) ∧ R w') :
  Calls Tryz.prog 38 #[.pointer (some ⟨g, 0, none⟩), .int .i64 n] W fun e w' => e = .returned (.tuple #[.bool true, .int .i64 0]) ∧ R w' := by
 have j0 : ¬ (n : Int) < 0 := by omega
 have j1 : (0 : Int) ≤ n := by omega
 have j2 : ¬ (2 : Int) < n := by omega
 have j3 : (n : Int) < 3 := by omega
 have cp := h.phase n hn
 rw [hq] at cp
 clear h hq
 go_enter Tryz.func38, Tryz.ntmps38
 go_wp2_with fail
 refine HC.mono ?_
 rintro e w' ⟨rfl, hR⟩
 go_wp2
 go_ret2
 exact ⟨rfl, hR⟩
def nowK (t : DT) : KL := ⟨t.asked.arch, t.asked.nr, t.now 0, t.now 1, t.now 2, t.now 3⟩
theorem nowK_eq {t : DT} (h : ∀ i, i < 4 → t.now i = regN t.asked i) : nowK t = t.asked := by
 unfold nowK
 rw [h 0 (by omega), h 1 (by omega), h 2 (by omega), h 3 (by omega)]
 rfl
theorem DX.nows {g : Nat} {P : PV} {d : DWS} {sv : Nat → Value} {lv : Value} {W : World} (h : DX g P d sv lv W) (n : Nat) (hn : n < 3) : W.cell? ⟨g, 783 + n * 31 + 7, none⟩ = some (.int .u32 (nowK (d.T n)).arch) ∧ W.cell? ⟨g, 783 + n * 31 + 8, none⟩ = some (.int .u32 (nowK (d.T n)).nr) ∧ W.cell? ⟨g, 783 + n * 31 + 9, none⟩ = some (.int .u64 (nowK (d.T n)).a0) ∧ W.cell? ⟨g, 783 + n * 31 + 10, none⟩ = some (.int .u64 (nowK (d.T n)).a1) ∧ W.cell? ⟨g, 783 + n * 31 + 11, none⟩ = some (.int .u64 (nowK (d.T n)).a2) ∧ W.cell? ⟨g, 783 + n * 31 + 12, none⟩ = some (.int .u64 (nowK (d.T n)).a3) :=
 ⟨h.th n 7 hn (by omega), h.th n 8 hn (by omega), h.th n 9 hn (by omega), h.th n 10 hn (by omega), h.th n 11 hn (by omega), h.th n 12 hn (by omega)⟩
theorem DX.nowr {g : Nat} {P : PV} {d : DWS} {sv : Nat → Value} {lv : Value} {W : World} (h : DX g P d sv lv W) (n : Nat) (hn : n < 3) : W.rangeAt g (783 + n * 31 + 7) (klC (nowK (d.T n))).toList := fun j v hv => by
 have hj : j < 6 := (List.getElem?_eq_some_iff.1 hv).1
 rw [show 783 + n * 31 + 7 + j = 783 + n * 31 + (7 + j) by omega, h.th n (7 + j) hn (by omega), ← hv]
 rcases show j = 0 ∨ j = 1 ∨ j = 2 ∨ j = 3 ∨ j = 4 ∨ j = 5 by omega with rfl | rfl | rfl | rfl | rfl | rfl <;> rfl
set_option maxHeartbeats 4000000 in
set_option maxRecDepth 20000 in
theorem dstep_1 {g : Nat} {P : PV} {d : DWS} {sv : Nat → Value} {lv : Value} {W : World} (n : Nat) (hn : n < 3) (hp : polF P.p = 0) (hok : PolOk P.p) (hk : KlOk (d.T n).asked) (hq : (d.T n).phase = 1) (hnow : ∀ i, i < 4 → (d.T n).now i = regN (d.T n).asked i) (h : DX g P d sv lv W) (hlog : d.log.length ≤ 1000000) (hs64 : SealOk (d.T n)) :
  Calls Tryz.prog 38 #[.pointer (some ⟨g, 0, none⟩), .int .i64 n] W (DStepd g P (dfilter P.p n d) sv lv W true 0) := by
 have j0 : ¬ (n : Int) < 0 := by omega
 have j1 : (0 : Int) ≤ n := by omega
 have j2 : ¬ (2 : Int) < n := by omega
 have j3 : (n : Int) < 3 := by omega
 have cp := h.phase n hn
 rw [hq] at cp
 obtain ⟨k, hkk⟩ : ∃ k, k = (d.T n).asked := ⟨_, rfl⟩
 have hnk : nowK (d.T n) = k := by rw [hkk]; exact nowK_eq hnow
 rw [← hkk] at hk
 have HJ := fun X hX => rjudge_any P.p hok P.oa P.cap k hk X hX
 have hact := judge_act hp k
 have htr : (judgeR P.p k).1.kind = 4 → k.nr ≤ 8 := fun e => (trace_pts hp e).1
 have HFS := hide (show dfilter P.p n d = if (judgeR P.p k).1.kind = 4 then d.put n { d.T n with phase := 2, arg := nextPt k.nr 0 } else ddone n (judgeR P.p k).1 5 d by rw [hkk]; rfl)
 obtain ⟨⟨⟨ak, ae⟩, ix⟩, hv⟩ : ∃ v, v = judgeR P.p k := ⟨_, rfl⟩
 rw [← hv] at HJ hact HFS htr
 unfold verV verC polV klV klC at HJ
 simp only at HJ hact HFS htr
 have c0 : W.cell? ⟨g, 0, none⟩ = some (.slice P.oa P.p.rules.length P.cap) := h.cell 0 (by omega) (.inl (by omega))
 have c1 : W.cell? ⟨g, 1, none⟩ = some (.int .i64 P.p.els.kind) := h.cell 1 (by omega) (.inl (by omega))
 have c2 : W.cell? ⟨g, 2, none⟩ = some (.int .i64 P.p.els.errno) := h.cell 2 (by omega) (.inl (by omega))
 obtain ⟨x1, x2, x3, x4, x5, x6⟩ := h.nows n hn
 rw [hnk] at x1 x2 x3 x4 x5 x6
 have hI := h.pol'
 have HI := hide (hI.on (Below.refl _ W).drew)
 have HI2 := hide (hI.on (box_below W (.cells #[.int .i64 0, .int .i64 0, .int .i64 0] 121)).drew)
 have HH := hide h
 have HNK := hide hnk
 have hgW : g ≠ W.heap.size := Nat.ne_of_lt h.glt
 have zb : (W.alloc (.cells #[.int .i64 0, .int .i64 0, .int .i64 0] 121)).drew.heap[W.heap.size]? = some (.cells #[.int .i64 0, .int .i64 0, .int .i64 0] 121 (0, 0)) := heap_alloc_new W _
 have kb := fun {b o v} (hc : W.cell? ⟨b, o, none⟩ = some v) => keep_cell (box_below W (.cells #[.int .i64 0, .int .i64 0, .int .i64 0] 121)) hc
 have yc0 := kb c0
 have yc1 := kb c1
 have yc2 := kb c2
 have yx1 := kb x1
 have yx2 := kb x2
 have yx3 := kb x3
 have yx4 := kb x4
 have yx5 := kb x5
 have yx6 := kb x6
 obtain ⟨pn, hpn⟩ : ∃ m, m = P.p.rules.length := ⟨_, rfl⟩
 obtain ⟨pk, hpk⟩ : ∃ m, m = P.p.els.kind := ⟨_, rfl⟩
 obtain ⟨pe, hpe⟩ : ∃ m, m = P.p.els.errno := ⟨_, rfl⟩
 rw [← hpn] at c0 yc0
 rw [← hpk] at c1 yc1
 rw [← hpe] at c2 yc2
 rw [← hpn, ← hpk, ← hpe] at HJ
 clear kb h hI hkk hv hpn hpk hpe hk hnk hnow hq
 replace c0 : W.drew.cell? _ = _ := c0
 replace c1 : W.drew.cell? _ = _ := c1
 replace c2 : W.drew.cell? _ = _ := c2
 replace x1 : W.drew.cell? _ = _ := x1
 replace x2 : W.drew.cell? _ = _ := x2
 replace x3 : W.drew.cell? _ = _ := x3
 replace x4 : W.drew.cell? _ = _ := x4
 replace x5 : W.drew.cell? _ = _ := x5
 replace x6 : W.drew.cell? _ = _ := x6
 replace yc0 : (W.alloc (.cells #[.int .i64 0, .int .i64 0, .int .i64 0] 121)).drew.cell? _ = _ := yc0
 replace yc1 : (W.alloc (.cells #[.int .i64 0, .int .i64 0, .int .i64 0] 121)).drew.cell? _ = _ := yc1
 replace yc2 : (W.alloc (.cells #[.int .i64 0, .int .i64 0, .int .i64 0] 121)).drew.cell? _ = _ := yc2
 replace yx1 : (W.alloc (.cells #[.int .i64 0, .int .i64 0, .int .i64 0] 121)).drew.cell? _ = _ := yx1
 replace yx2 : (W.alloc (.cells #[.int .i64 0, .int .i64 0, .int .i64 0] 121)).drew.cell? _ = _ := yx2
 replace yx3 : (W.alloc (.cells #[.int .i64 0, .int .i64 0, .int .i64 0] 121)).drew.cell? _ = _ := yx3
 replace yx4 : (W.alloc (.cells #[.int .i64 0, .int .i64 0, .int .i64 0] 121)).drew.cell? _ = _ := yx4
 replace yx5 : (W.alloc (.cells #[.int .i64 0, .int .i64 0, .int .i64 0] 121)).drew.cell? _ = _ := yx5
 replace yx6 : (W.alloc (.cells #[.int .i64 0, .int .i64 0, .int .i64 0] 121)).drew.cell? _ = _ := yx6
 go_enter Tryz.func38, Tryz.ntmps38
 go_wp2_with fail
 go_cut [7] (fun S wc => ∃ r5 : Nat, S = .pointer (some ⟨r5, 0, none⟩) ∧ Hid (Below W.heap.size W wc) ∧ Hid (wc.heap[r5]? = some (.cells #[.int .i64 ak, .int .i64 ae, .int .i64 ix] 121 (0, 0))))
 case first => as_aux_lemma =>
  go_region_held3 (fun w' => w'.cell? ⟨g, 0, none⟩ = some (.slice P.oa pn P.cap) ∧ w'.cell? ⟨g, 1, none⟩ = some (.int .i64 pk) ∧ w'.cell? ⟨g, 2, none⟩ = some (.int .i64 pe) ∧ w'.cell? ⟨g, 783 + n * 31 + 7, none⟩ = some (.int .u32 k.arch) ∧ w'.cell? ⟨g, 783 + n * 31 + 8, none⟩ = some (.int .u32 k.nr) ∧ w'.cell? ⟨g, 783 + n * 31 + 9, none⟩ = some (.int .u64 k.a0) ∧ w'.cell? ⟨g, 783 + n * 31 + 10, none⟩ = some (.int .u64 k.a1) ∧ w'.cell? ⟨g, 783 + n * 31 + 11, none⟩ = some (.int .u64 k.a2) ∧ w'.cell? ⟨g, 783 + n * 31 + 12, none⟩ = some (.int .u64 k.a3))
   (first | (with_reducible exact ⟨c0, c1, c2, x1, x2, x3, x4, x5, x6⟩) | (with_reducible exact ⟨yc0, yc1, yc2, yx1, yx2, yx3, yx4, yx5, yx6⟩) | (with_reducible exact ⟨r0, r1, r2, r3, r4, r5, r6, r7, r8⟩) | (with_reducible exact ⟨keep_cell (box_below W.drew _) c0, keep_cell (box_below W.drew _) c1, keep_cell (box_below W.drew _) c2, keep_cell (box_below W.drew _) x1, keep_cell (box_below W.drew _) x2, keep_cell (box_below W.drew _) x3, keep_cell (box_below W.drew _) x4, keep_cell (box_below W.drew _) x5, keep_cell (box_below W.drew _) x6⟩) | (with_reducible exact ⟨keep_cell (box_below Y _) r0, keep_cell (box_below Y _) r1, keep_cell (box_below Y _) r2, keep_cell (box_below Y _) r3, keep_cell (box_below Y _) r4, keep_cell (box_below Y _) r5, keep_cell (box_below Y _) r6, keep_cell (box_below Y _) r7, keep_cell (box_below Y _) r8⟩) | (with_reducible exact ⟨keepv hgW r0, keepv hgW r1, keepv hgW r2, keepv hgW r3, keepv hgW r4, keepv hgW r5, keepv hgW r6, keepv hgW r7, keepv hgW r8⟩) | go_keep)
   ((first
    | (go_at_call 65; with_reducible refine (HJ W.drew HI.out).mono ?_; rintro e Y ⟨rfl, hY⟩; have HB := hide (below_next (Below.refl _ W).drew hY); have r0 := keep_cell hY c0; have r1 := keep_cell hY c1; have r2 := keep_cell hY c2; have r3 := keep_cell hY x1; have r4 := keep_cell hY x2; have r5 := keep_cell hY x3; have r6 := keep_cell hY x4; have r7 := keep_cell hY x5; have r8 := keep_cell hY x6; clear hY)
    | (go_at_call 65; refine (HJ (W.alloc (.cells #[.int .i64 0, .int .i64 0, .int .i64 0] 121)).drew HI2.out).mono ?_; rintro e Y ⟨rfl, hY⟩; have HB := hide (below_next (box_below W (.cells #[.int .i64 0, .int .i64 0, .int .i64 0] 121)).drew hY); have r0 := keep_cell hY yc0; have r1 := keep_cell hY yc1; have r2 := keep_cell hY yc2; have r3 := keep_cell hY yx1; have r4 := keep_cell hY yx2; have r5 := keep_cell hY yx3; have r6 := keep_cell hY yx4; have r7 := keep_cell hY yx5; have r8 := keep_cell hY yx6; have uh := (hY.block W.heap.size (by show _ < (W.alloc _).heap.size; rw [World.size_alloc]; exact Nat.lt_succ_self _)).trans zb; obtain ⟨⟨p0, p1, p2⟩, g0, g1, g2⟩ := vrow_cells uh; clear hY)))
  all_goals
   go_wp2_with fail
   go_meet
   case rel => first
    | with_reducible exact ⟨Y.heap.size, rfl, hide (below_next HB.out (box_below _ _)), hide (heap_alloc_new _ _)⟩
    | exact ⟨W.heap.size, rfl, hide (by rw [vset3 uh]; exact below_setRow HB.out (Nat.le_refl _) _), hide (by rw [vset3 uh]; exact setRow_heap _ _ _ _ _ _ uh)⟩
 case rest => as_aux_lemma =>
  obtain ⟨r5, rfl, HB, HR⟩ := hcut
  clear c0 c1 c2 x1 x2 x3 x4 x5 x6 yc0 yc1 yc2 yx1 yx2 yx3 yx4 yx5 yx6 zb HI HI2 HJ cp
  have d0 : wc.cell? ⟨r5, 0, none⟩ = some (.int .i64 ak) := cell_of_row _ _ 0 _ _ _ HR.out
  have d1 : wc.cell? ⟨r5, 1, none⟩ = some (.int .i64 ae) := cell_of_row _ _ 1 _ _ _ HR.out
  have HX := hide (HH.out.on HB.out)
  have HFB := hide (DFr.of (g := g) sv lv HB.out)
  by_cases h4 : ak = 4
  ·
   rw [if_pos h4] at HFS
   have h8 := htr h4
   subst h4
   have cp := HX.out.phase n hn
   have fp := HX.out.fro (783 + n * 31)
   have HS : Hid (DX g P (d.put n { d.T n with phase := 2 }) sv lv (wc.setCell ⟨g, 783 + n * 31, none⟩ (.int .i64 2))) := hide (HX.out.setPhase n 2 hn)
   have HF2 := hide (HFB.out.trans (DFr.set (g := g) sv lv wc (783 + n * 31) (.int .i64 2)))
   obtain ⟨kc, hkc⟩ : ∃ c, c = klC k := ⟨_, rfl⟩
   have hks : kc.toList.length = 6 := by rw [hkc]; rfl
   have hrng := HS.out.nowr n hn
   rw [T_dput, show nowK { d.T n with phase := 2 } = k from HNK.out, ← hkc] at hrng
   have HP : Calls Tryz.prog 66 #[klV k, .int .i64 0] (wc.setCell ⟨g, 783 + n * 31, none⟩ (.int .i64 2)) fun e w' => e = .returned (.int .i64 (nextPt k.nr 0 : Nat)) ∧ Below (wc.setCell ⟨g, 783 + n * 31, none⟩ (.int .i64 2)).heap.size (wc.setCell ⟨g, 783 + n * 31, none⟩ (.int .i64 2)) w' := pointer_any k h8 0 (by omega) _
   unfold klV at HP
   rw [← hkc] at HP
   obtain ⟨np, hnp⟩ : ∃ m, m = nextPt k.nr 0 := ⟨_, rfl⟩
   rw [← hnp] at HP HFS
   clear hnp hkc
   go_wp2_with (first | (refine wpList_load_mid rfl 52 (.tmp 48) rfl g (783 + n * 31 + 7) rfl kc.toList _ hrng Tryz.underlying52 rfl (by rw [hks]; exact size_call6) ?_; rw [show kc.toList.toArray = kc from Array.toArray_toList]))
   refine HP.mono ?_
   rintro e w2 ⟨rfl, hw2⟩
   have HX2 := hide (HS.out.on hw2)
   have HF3 := hide (HF2.out.trans (DFr.of sv lv hw2))
   have ca : w2.cell? ⟨g, 783 + n * 31 + 17, none⟩ = some (cellDT { d.T n with phase := 2 } (sv n) 17) := by rw [HX2.out.th n 17 hn (by omega), T_dput]
   have fa := HX2.out.fro (783 + n * 31 + 17)
   have HS2 := hide (HX2.out.setT' 17 hn (by omega) (.int .i64 (np : Nat)) { d.T n with phase := 2, arg := np } rfl (fun j => cellDT_argx { d.T n with phase := 2 } (sv n) np j))
   clear hw2
   go_wp2
   go_ret2
   rw [HFS.out]
   exact ⟨rfl, sv, lv, HS2.out, HF3.out.trans (DFr.set sv lv _ _ _)⟩
  ·
   rw [if_neg h4] at HFS
   have ha := hact.resolve_left h4
   have HD := ddone_any n hn ⟨ak, ae⟩ ha 5 HX.out hlog hs64
   unfold actV at HD
   simp only at HD
   have b4 : (ak == 4) = false := by simpa using h4
   clear hact ha
   go_wp2_with fail
   refine HD.mono ?_
   rintro e w' hG
   obtain ⟨rfl, h1⟩ := DGoes.from HFB.out hG
   clear hG
   go_wp2
   go_ret2
   rw [HFS.out]
   exact ⟨rfl, h1⟩
set_option maxHeartbeats 4000000 in
set_option maxRecDepth 20000 in
theorem dstep_3 {g : Nat} {P : PV} {d : DWS} {sv : Nat → Value} {lv : Value} {W : World} (n : Nat) (hn : n < 3) (hp : polF P.p = 0) (hok : PolOk P.p) (hk : KlOk (d.T n).asked) (hvo : VsOk (vsOf (d.T n).vals)) (hq : (d.T n).phase = 3) (h : DX g P d sv lv W) (hlog : d.log.length ≤ 1000000) (hs64 : SealOk (d.T n)) :
  Calls Tryz.prog 38 #[.pointer (some ⟨g, 0, none⟩), .int .i64 n] W (DStepd g P (ddone n (decideR P.p (d.T n).asked (vsOf (d.T n).vals)) 4 d) sv lv W true 0) := by
 have j0 : ¬ (n : Int) < 0 := by omega
 have j1 : (0 : Int) ≤ n := by omega
 have j2 : ¬ (2 : Int) < n := by omega
 have j3 : (n : Int) < 3 := by omega
 have cp := h.phase n hn
 rw [hq] at cp
 obtain ⟨k, hkk⟩ : ∃ k, k = (d.T n).asked := ⟨_, rfl⟩
 obtain ⟨v, hvv⟩ : ∃ v, v = vsOf (d.T n).vals := ⟨_, rfl⟩
 rw [← hkk] at hk
 rw [← hvv] at hvo
 rw [← hkk, ← hvv]
 have HJ := fun X hX => rdecide_any P.p hok P.oa P.cap k hk v hvo X hX
 have hact := decide_act hp k v
 obtain ⟨⟨ak, ae⟩, hv⟩ : ∃ a, a = decideR P.p k v := ⟨_, rfl⟩
 rw [← hv] at HJ hact
 rw [← hv]
 unfold actV polV klV klC vsV vsC at HJ
 simp only at HJ hact
 have c0 : W.cell? ⟨g, 0, none⟩ = some (.slice P.oa P.p.rules.length P.cap) := h.cell 0 (by omega) (.inl (by omega))
 have c1 : W.cell? ⟨g, 1, none⟩ = some (.int .i64 P.p.els.kind) := h.cell 1 (by omega) (.inl (by omega))
 have c2 : W.cell? ⟨g, 2, none⟩ = some (.int .i64 P.p.els.errno) := h.cell 2 (by omega) (.inl (by omega))
 have x1 := h.th n 1 hn (by omega)
 have x2 := h.th n 2 hn (by omega)
 have x3 := h.th n 3 hn (by omega)
 have x4 := h.th n 4 hn (by omega)
 have x5 := h.th n 5 hn (by omega)
 have x6 := h.th n 6 hn (by omega)
 rw [(cellDT_asked _ _).1, ← hkk] at x1
 rw [(cellDT_asked _ _).2.1, ← hkk] at x2
 rw [(cellDT_asked _ _).2.2.1, ← hkk] at x3
 rw [(cellDT_asked _ _).2.2.2.1, ← hkk] at x4
 rw [(cellDT_asked _ _).2.2.2.2.1, ← hkk] at x5
 rw [(cellDT_asked _ _).2.2.2.2.2, ← hkk] at x6
 have v0 : W.cell? ⟨g, 783 + n * 31 + 18, none⟩ = some (.string v.v0.path) := by rw [h.th n 18 hn (by omega), hvv]; exact congrArg some (cellDT_val _ _ 0 (by omega)).1
 have v1 : W.cell? ⟨g, 783 + n * 31 + 19, none⟩ = some (.int .u32 v.v0.ip) := by rw [h.th n 19 hn (by omega), hvv]; exact congrArg some (cellDT_val _ _ 0 (by omega)).2.1
 have v2 : W.cell? ⟨g, 783 + n * 31 + 20, none⟩ = some (.int .i64 v.v0.port) := by rw [h.th n 20 hn (by omega), hvv]; exact congrArg some (cellDT_val _ _ 0 (by omega)).2.2
 have v3 : W.cell? ⟨g, 783 + n * 31 + 21, none⟩ = some (.string v.v1.path) := by rw [h.th n 21 hn (by omega), hvv]; exact congrArg some (cellDT_val _ _ 1 (by omega)).1
 have v4 : W.cell? ⟨g, 783 + n * 31 + 22, none⟩ = some (.int .u32 v.v1.ip) := by rw [h.th n 22 hn (by omega), hvv]; exact congrArg some (cellDT_val _ _ 1 (by omega)).2.1
 have v5 : W.cell? ⟨g, 783 + n * 31 + 23, none⟩ = some (.int .i64 v.v1.port) := by rw [h.th n 23 hn (by omega), hvv]; exact congrArg some (cellDT_val _ _ 1 (by omega)).2.2
 have v6 : W.cell? ⟨g, 783 + n * 31 + 24, none⟩ = some (.string v.v2.path) := by rw [h.th n 24 hn (by omega), hvv]; exact congrArg some (cellDT_val _ _ 2 (by omega)).1
 have v7 : W.cell? ⟨g, 783 + n * 31 + 25, none⟩ = some (.int .u32 v.v2.ip) := by rw [h.th n 25 hn (by omega), hvv]; exact congrArg some (cellDT_val _ _ 2 (by omega)).2.1
 have v8 : W.cell? ⟨g, 783 + n * 31 + 26, none⟩ = some (.int .i64 v.v2.port) := by rw [h.th n 26 hn (by omega), hvv]; exact congrArg some (cellDT_val _ _ 2 (by omega)).2.2
 have v9 : W.cell? ⟨g, 783 + n * 31 + 27, none⟩ = some (.string v.v3.path) := by rw [h.th n 27 hn (by omega), hvv]; exact congrArg some (cellDT_val _ _ 3 (by omega)).1
 have v10 : W.cell? ⟨g, 783 + n * 31 + 28, none⟩ = some (.int .u32 v.v3.ip) := by rw [h.th n 28 hn (by omega), hvv]; exact congrArg some (cellDT_val _ _ 3 (by omega)).2.1
 have v11 : W.cell? ⟨g, 783 + n * 31 + 29, none⟩ = some (.int .i64 v.v3.port) := by rw [h.th n 29 hn (by omega), hvv]; exact congrArg some (cellDT_val _ _ 3 (by omega)).2.2
 have hI := h.pol'
 have HI := hide (hI.on (Below.refl _ W).drew)
 have HH := hide (h.on (Below.refl _ W).drew)
 have HDW := hide (DFr.of (g := g) sv lv (Below.refl _ W).drew)
 obtain ⟨pn, hpn⟩ : ∃ m, m = P.p.rules.length := ⟨_, rfl⟩
 obtain ⟨pk, hpk⟩ : ∃ m, m = P.p.els.kind := ⟨_, rfl⟩
 obtain ⟨pe, hpe⟩ : ∃ m, m = P.p.els.errno := ⟨_, rfl⟩
 rw [← hpn] at c0
 rw [← hpk] at c1
 rw [← hpe] at c2
 rw [← hpn, ← hpk, ← hpe] at HJ
 have HD := fun X (hX : DX g P d sv lv X) => ddone_any n hn ⟨ak, ae⟩ hact 4 hX hlog hs64
 unfold actV at HD
 simp only at HD
 clear h hI hkk hvv hv hpn hpk hpe hk hvo hact hs64 hq
 replace c0 : W.drew.cell? _ = _ := c0
 replace c1 : W.drew.cell? _ = _ := c1
 replace c2 : W.drew.cell? _ = _ := c2
 replace x1 : W.drew.cell? _ = _ := x1
 replace x2 : W.drew.cell? _ = _ := x2
 replace x3 : W.drew.cell? _ = _ := x3
 replace x4 : W.drew.cell? _ = _ := x4
 replace x5 : W.drew.cell? _ = _ := x5
 replace x6 : W.drew.cell? _ = _ := x6
 replace v0 : W.drew.cell? _ = _ := v0
 replace v1 : W.drew.cell? _ = _ := v1
 replace v2 : W.drew.cell? _ = _ := v2
 replace v3 : W.drew.cell? _ = _ := v3
 replace v4 : W.drew.cell? _ = _ := v4
 replace v5 : W.drew.cell? _ = _ := v5
 replace v6 : W.drew.cell? _ = _ := v6
 replace v7 : W.drew.cell? _ = _ := v7
 replace v8 : W.drew.cell? _ = _ := v8
 replace v9 : W.drew.cell? _ = _ := v9
 replace v10 : W.drew.cell? _ = _ := v10
 replace v11 : W.drew.cell? _ = _ := v11
 go_enter Tryz.func38, Tryz.ntmps38
 go_wp2_with fail
 refine wp_region_any (by kernel_rfl) ?_
 change wpAny _ _ _ _ _ _ _ (World.drew _)
 refine Gl.wpAny_takeOf 0 (some 65) (Value.pointer (some ⟨g, 0, none⟩)) rfl rfl (by kernel_rfl) (by kernel_rfl) (by kernel_rfl) (fun _ _ _ h => h) (Or.inl ⟨by rfl, ?_⟩) ?_
 ·
  intro wx
  go_simp
 try simp only [Act.put, LT1, LT2, LT3]
 refine Gl.wpAny_takeOf 1 (some 66) (.int .i64 n) rfl rfl (by kernel_rfl) (by kernel_rfl) (by kernel_rfl) (fun _ _ _ h => h) (Or.inl ⟨by rfl, ?_⟩) ?_
 ·
  intro wx
  go_simp
 try simp only [Act.put, LT1, LT2, LT3]
 refine Gl.wpAny_takeOf 2 (some 67) (Value.pointer (some ⟨g, 0, none⟩)) rfl rfl (by kernel_rfl) (by kernel_rfl) (by kernel_rfl) (fun _ _ _ h => h) (Or.inl ⟨by rfl, ?_⟩) ?_
 ·
  intro wx
  go_simp
 try simp only [Act.put, LT1, LT2, LT3]
 refine Gl.wpAny_takeOf 3 (some 68) (Value.pointer (some ⟨g, 0, none⟩)) rfl rfl (by kernel_rfl) (by kernel_rfl) (by kernel_rfl) (fun _ _ _ h => h) (Or.inl ⟨by rfl, ?_⟩) ?_
 ·
  intro wx
  go_simp
 try simp only [Act.put, LT1, LT2, LT3]
 refine Gl.wpAny_takeOf 4 (some 69) (Value.pointer (some ⟨g, 0, none⟩)) rfl rfl (by kernel_rfl) (by kernel_rfl) (by kernel_rfl) (fun _ _ _ h => h) (Or.inl ⟨by rfl, ?_⟩) ?_
 ·
  intro wx
  go_simp
 try simp only [Act.put, LT1, LT2, LT3]
 refine Gl.wpAny_takeOf 6 (some 71) (Value.pointer (some ⟨g, 783 + n * 31, none⟩)) rfl rfl (by kernel_rfl) (by kernel_rfl) (by kernel_rfl) (fun _ _ _ h => h) (Or.inl ⟨by rfl, ?_⟩) ?_
 ·
  intro wx
  go_simp
 try simp only [Act.put, LT1, LT2, LT3]
 refine Gl.wpAny_takeOf 7 (some 72) (Value.pointer (some ⟨g, 783 + n * 31, none⟩)) rfl rfl (by kernel_rfl) (by kernel_rfl) (by kernel_rfl) (fun _ _ _ h => h) (Or.inl ⟨by rfl, ?_⟩) ?_
 ·
  intro wx
  go_simp
 try simp only [Act.put, LT1, LT2, LT3]
 refine Gl.wpAny_takeOf 8 (some 73) (Value.pointer (some ⟨g, 783 + n * 31 + 1, none⟩)) rfl rfl (by kernel_rfl) (by kernel_rfl) (by kernel_rfl) (fun _ _ _ h => h) (Or.inl ⟨by rfl, ?_⟩) ?_
 ·
  intro wx
  go_simp
 try simp only [Act.put, LT1, LT2, LT3]
 refine Gl.wpAny_takeOf 10 (some 75) (Value.pointer (some ⟨g, 783 + n * 31, none⟩)) rfl rfl (by kernel_rfl) (by kernel_rfl) (by kernel_rfl) (fun _ _ _ h => h) (Or.inl ⟨by rfl, ?_⟩) ?_
 ·
  intro wx
  go_simp
 try simp only [Act.put, LT1, LT2, LT3]
 refine Gl.wpAny_takeOf 11 (some 76) (Value.pointer (some ⟨g, 783 + n * 31, none⟩)) rfl rfl (by kernel_rfl) (by kernel_rfl) (by kernel_rfl) (fun _ _ _ h => h) (Or.inl ⟨by rfl, ?_⟩) ?_
 ·
  intro wx
  go_simp
 try simp only [Act.put, LT1, LT2, LT3]
 refine Gl.wpAny_takeOf 12 (some 77) (Value.pointer (some ⟨g, 783 + n * 31 + 18, none⟩)) rfl rfl (by kernel_rfl) (by kernel_rfl) (by kernel_rfl) (fun _ _ _ h => h) (Or.inl ⟨by rfl, ?_⟩) ?_
 ·
  intro wx
  go_simp
 try simp only [Act.put, LT1, LT2, LT3]
 refine wpAny_three (i := 5) (j := 9) (k := 13) (by kernel_rfl) rfl rfl rfl rfl rfl rfl (fun K hK => ?_) (fun K hK => ?_) (fun K hK => ?_)
 ·
  go_simp
  refine hK _ _ ?_
  clear hK K
  try simp only [Act.put, LT1, LT2, LT3]
  refine wpAny_two (i := 9) (j := 13) (by kernel_rfl) rfl rfl rfl rfl (fun K hK => ?_) (fun K hK => ?_)
  ·
   go_simp
   refine hK _ _ ?_
   clear hK K
   try simp only [Act.put, LT1, LT2, LT3]
   refine Gl.wpAny_only (i := 13) (by kernel_rfl) rfl rfl (fun K hK => ?_)
   go_simp
   refine hK _ _ ?_
   clear hK K
   try simp only [Act.put, LT1, LT2, LT3]
   refine Gl.wpAny_only (i := 14) (by kernel_rfl) rfl rfl (fun K hK => ?_)
   refine Gl.wp_callOf 69 #[.agg #[.slice P.oa pn P.cap, .int .i64 pk, .int .i64 pe], .agg #[.int .u32 k.arch, .int .u32 k.nr, .int .u64 k.a0, .int .u64 k.a1, .int .u64 k.a2, .int .u64 k.a3], .agg #[.string v.v0.path, .int .u32 v.v0.ip, .int .i64 v.v0.port, .string v.v1.path, .int .u32 v.v1.ip, .int .i64 v.v1.port, .string v.v2.path, .int .u32 v.v2.ip, .int .i64 v.v2.port, .string v.v3.path, .int .u32 v.v3.ip, .int .i64 v.v3.port]] (by kernel_rfl) (HJ W.drew HI.out) ?_
   rintro e Y ⟨rfl, hY⟩
   have HY := hide (HH.out.on hY)
   have HFY := hide (HDW.out.trans (DFr.of sv lv hY))
   clear hY
   refine ⟨_, rfl, hK _ _ ?_⟩
   clear hK K
   try simp only [Act.put, LT1, LT2, LT3]
   refine Gl.wpAny_only (i := 15) (by kernel_rfl) rfl rfl (fun K hK => ?_)
   refine Gl.wp_callOf 67 #[.pointer (some ⟨g, 0, none⟩), .int .i64 n, .agg #[.int .i64 ak, .int .i64 ae], .int .i64 4] (by kernel_rfl) (HD _ HY.out) ?_
   rintro e Z ⟨rfl, sv2, lv2, hZ1, hZ2⟩
   have HZ := hide (And.intro hZ1 (HFY.out.trans hZ2))
   clear hZ1 hZ2
   refine ⟨_, rfl, hK _ _ ?_⟩
   clear hK K
   try simp only [Act.put, LT1, LT2, LT3]
   refine wpAny_done (by kernel_rfl) ?_ _
   go_wp2
   go_ret2
   exact ⟨rfl, sv2, lv2, HZ.out.1, HZ.out.2⟩
  ·
   go_simp
   refine hK _ _ ?_
   clear hK K
   try simp only [Act.put, LT1, LT2, LT3]
   refine Gl.wpAny_only (i := 9) (by kernel_rfl) rfl rfl (fun K hK => ?_)
   go_simp
   refine hK _ _ ?_
   clear hK K
   try simp only [Act.put, LT1, LT2, LT3]
   refine Gl.wpAny_only (i := 14) (by kernel_rfl) rfl rfl (fun K hK => ?_)
   refine Gl.wp_callOf 69 #[.agg #[.slice P.oa pn P.cap, .int .i64 pk, .int .i64 pe], .agg #[.int .u32 k.arch, .int .u32 k.nr, .int .u64 k.a0, .int .u64 k.a1, .int .u64 k.a2, .int .u64 k.a3], .agg #[.string v.v0.path, .int .u32 v.v0.ip, .int .i64 v.v0.port, .string v.v1.path, .int .u32 v.v1.ip, .int .i64 v.v1.port, .string v.v2.path, .int .u32 v.v2.ip, .int .i64 v.v2.port, .string v.v3.path, .int .u32 v.v3.ip, .int .i64 v.v3.port]] (by kernel_rfl) (HJ W.drew HI.out) ?_
   rintro e Y ⟨rfl, hY⟩
   have HY := hide (HH.out.on hY)
   have HFY := hide (HDW.out.trans (DFr.of sv lv hY))
   clear hY
   refine ⟨_, rfl, hK _ _ ?_⟩
   clear hK K
   try simp only [Act.put, LT1, LT2, LT3]
   refine Gl.wpAny_only (i := 15) (by kernel_rfl) rfl rfl (fun K hK => ?_)
   refine Gl.wp_callOf 67 #[.pointer (some ⟨g, 0, none⟩), .int .i64 n, .agg #[.int .i64 ak, .int .i64 ae], .int .i64 4] (by kernel_rfl) (HD _ HY.out) ?_
   rintro e Z ⟨rfl, sv2, lv2, hZ1, hZ2⟩
   have HZ := hide (And.intro hZ1 (HFY.out.trans hZ2))
   clear hZ1 hZ2
   refine ⟨_, rfl, hK _ _ ?_⟩
   clear hK K
   try simp only [Act.put, LT1, LT2, LT3]
   refine wpAny_done (by kernel_rfl) ?_ _
   go_wp2
   go_ret2
   exact ⟨rfl, sv2, lv2, HZ.out.1, HZ.out.2⟩
 ·
  go_simp
  refine hK _ _ ?_
  clear hK K
  try simp only [Act.put, LT1, LT2, LT3]
  refine wpAny_two (i := 5) (j := 13) (by kernel_rfl) rfl rfl rfl rfl (fun K hK => ?_) (fun K hK => ?_)
  ·
   go_simp
   refine hK _ _ ?_
   clear hK K
   try simp only [Act.put, LT1, LT2, LT3]
   refine Gl.wpAny_only (i := 13) (by kernel_rfl) rfl rfl (fun K hK => ?_)
   go_simp
   refine hK _ _ ?_
   clear hK K
   try simp only [Act.put, LT1, LT2, LT3]
   refine Gl.wpAny_only (i := 14) (by kernel_rfl) rfl rfl (fun K hK => ?_)
   refine Gl.wp_callOf 69 #[.agg #[.slice P.oa pn P.cap, .int .i64 pk, .int .i64 pe], .agg #[.int .u32 k.arch, .int .u32 k.nr, .int .u64 k.a0, .int .u64 k.a1, .int .u64 k.a2, .int .u64 k.a3], .agg #[.string v.v0.path, .int .u32 v.v0.ip, .int .i64 v.v0.port, .string v.v1.path, .int .u32 v.v1.ip, .int .i64 v.v1.port, .string v.v2.path, .int .u32 v.v2.ip, .int .i64 v.v2.port, .string v.v3.path, .int .u32 v.v3.ip, .int .i64 v.v3.port]] (by kernel_rfl) (HJ W.drew HI.out) ?_
   rintro e Y ⟨rfl, hY⟩
   have HY := hide (HH.out.on hY)
   have HFY := hide (HDW.out.trans (DFr.of sv lv hY))
   clear hY
   refine ⟨_, rfl, hK _ _ ?_⟩
   clear hK K
   try simp only [Act.put, LT1, LT2, LT3]
   refine Gl.wpAny_only (i := 15) (by kernel_rfl) rfl rfl (fun K hK => ?_)
   refine Gl.wp_callOf 67 #[.pointer (some ⟨g, 0, none⟩), .int .i64 n, .agg #[.int .i64 ak, .int .i64 ae], .int .i64 4] (by kernel_rfl) (HD _ HY.out) ?_
   rintro e Z ⟨rfl, sv2, lv2, hZ1, hZ2⟩
   have HZ := hide (And.intro hZ1 (HFY.out.trans hZ2))
   clear hZ1 hZ2
   refine ⟨_, rfl, hK _ _ ?_⟩
   clear hK K
   try simp only [Act.put, LT1, LT2, LT3]
   refine wpAny_done (by kernel_rfl) ?_ _
   go_wp2
   go_ret2
   exact ⟨rfl, sv2, lv2, HZ.out.1, HZ.out.2⟩
  ·
   go_simp
   refine hK _ _ ?_
   clear hK K
   try simp only [Act.put, LT1, LT2, LT3]
   refine Gl.wpAny_only (i := 5) (by kernel_rfl) rfl rfl (fun K hK => ?_)
   go_simp
   refine hK _ _ ?_
   clear hK K
   try simp only [Act.put, LT1, LT2, LT3]
   refine Gl.wpAny_only (i := 14) (by kernel_rfl) rfl rfl (fun K hK => ?_)
   refine Gl.wp_callOf 69 #[.agg #[.slice P.oa pn P.cap, .int .i64 pk, .int .i64 pe], .agg #[.int .u32 k.arch, .int .u32 k.nr, .int .u64 k.a0, .int .u64 k.a1, .int .u64 k.a2, .int .u64 k.a3], .agg #[.string v.v0.path, .int .u32 v.v0.ip, .int .i64 v.v0.port, .string v.v1.path, .int .u32 v.v1.ip, .int .i64 v.v1.port, .string v.v2.path, .int .u32 v.v2.ip, .int .i64 v.v2.port, .string v.v3.path, .int .u32 v.v3.ip, .int .i64 v.v3.port]] (by kernel_rfl) (HJ W.drew HI.out) ?_
   rintro e Y ⟨rfl, hY⟩
   have HY := hide (HH.out.on hY)
   have HFY := hide (HDW.out.trans (DFr.of sv lv hY))
   clear hY
   refine ⟨_, rfl, hK _ _ ?_⟩
   clear hK K
   try simp only [Act.put, LT1, LT2, LT3]
   refine Gl.wpAny_only (i := 15) (by kernel_rfl) rfl rfl (fun K hK => ?_)
   refine Gl.wp_callOf 67 #[.pointer (some ⟨g, 0, none⟩), .int .i64 n, .agg #[.int .i64 ak, .int .i64 ae], .int .i64 4] (by kernel_rfl) (HD _ HY.out) ?_
   rintro e Z ⟨rfl, sv2, lv2, hZ1, hZ2⟩
   have HZ := hide (And.intro hZ1 (HFY.out.trans hZ2))
   clear hZ1 hZ2
   refine ⟨_, rfl, hK _ _ ?_⟩
   clear hK K
   try simp only [Act.put, LT1, LT2, LT3]
   refine wpAny_done (by kernel_rfl) ?_ _
   go_wp2
   go_ret2
   exact ⟨rfl, sv2, lv2, HZ.out.1, HZ.out.2⟩
 ·
  go_simp
  refine hK _ _ ?_
  clear hK K
  try simp only [Act.put, LT1, LT2, LT3]
  refine wpAny_two (i := 5) (j := 9) (by kernel_rfl) rfl rfl rfl rfl (fun K hK => ?_) (fun K hK => ?_)
  ·
   go_simp
   refine hK _ _ ?_
   clear hK K
   try simp only [Act.put, LT1, LT2, LT3]
   refine Gl.wpAny_only (i := 9) (by kernel_rfl) rfl rfl (fun K hK => ?_)
   go_simp
   refine hK _ _ ?_
   clear hK K
   try simp only [Act.put, LT1, LT2, LT3]
   refine Gl.wpAny_only (i := 14) (by kernel_rfl) rfl rfl (fun K hK => ?_)
   refine Gl.wp_callOf 69 #[.agg #[.slice P.oa pn P.cap, .int .i64 pk, .int .i64 pe], .agg #[.int .u32 k.arch, .int .u32 k.nr, .int .u64 k.a0, .int .u64 k.a1, .int .u64 k.a2, .int .u64 k.a3], .agg #[.string v.v0.path, .int .u32 v.v0.ip, .int .i64 v.v0.port, .string v.v1.path, .int .u32 v.v1.ip, .int .i64 v.v1.port, .string v.v2.path, .int .u32 v.v2.ip, .int .i64 v.v2.port, .string v.v3.path, .int .u32 v.v3.ip, .int .i64 v.v3.port]] (by kernel_rfl) (HJ W.drew HI.out) ?_
   rintro e Y ⟨rfl, hY⟩
   have HY := hide (HH.out.on hY)
   have HFY := hide (HDW.out.trans (DFr.of sv lv hY))
   clear hY
   refine ⟨_, rfl, hK _ _ ?_⟩
   clear hK K
   try simp only [Act.put, LT1, LT2, LT3]
   refine Gl.wpAny_only (i := 15) (by kernel_rfl) rfl rfl (fun K hK => ?_)
   refine Gl.wp_callOf 67 #[.pointer (some ⟨g, 0, none⟩), .int .i64 n, .agg #[.int .i64 ak, .int .i64 ae], .int .i64 4] (by kernel_rfl) (HD _ HY.out) ?_
   rintro e Z ⟨rfl, sv2, lv2, hZ1, hZ2⟩
   have HZ := hide (And.intro hZ1 (HFY.out.trans hZ2))
   clear hZ1 hZ2
   refine ⟨_, rfl, hK _ _ ?_⟩
   clear hK K
   try simp only [Act.put, LT1, LT2, LT3]
   refine wpAny_done (by kernel_rfl) ?_ _
   go_wp2
   go_ret2
   exact ⟨rfl, sv2, lv2, HZ.out.1, HZ.out.2⟩
  ·
   go_simp
   refine hK _ _ ?_
   clear hK K
   try simp only [Act.put, LT1, LT2, LT3]
   refine Gl.wpAny_only (i := 5) (by kernel_rfl) rfl rfl (fun K hK => ?_)
   go_simp
   refine hK _ _ ?_
   clear hK K
   try simp only [Act.put, LT1, LT2, LT3]
   refine Gl.wpAny_only (i := 14) (by kernel_rfl) rfl rfl (fun K hK => ?_)
   refine Gl.wp_callOf 69 #[.agg #[.slice P.oa pn P.cap, .int .i64 pk, .int .i64 pe], .agg #[.int .u32 k.arch, .int .u32 k.nr, .int .u64 k.a0, .int .u64 k.a1, .int .u64 k.a2, .int .u64 k.a3], .agg #[.string v.v0.path, .int .u32 v.v0.ip, .int .i64 v.v0.port, .string v.v1.path, .int .u32 v.v1.ip, .int .i64 v.v1.port, .string v.v2.path, .int .u32 v.v2.ip, .int .i64 v.v2.port, .string v.v3.path, .int .u32 v.v3.ip, .int .i64 v.v3.port]] (by kernel_rfl) (HJ W.drew HI.out) ?_
   rintro e Y ⟨rfl, hY⟩
   have HY := hide (HH.out.on hY)
   have HFY := hide (HDW.out.trans (DFr.of sv lv hY))
   clear hY
   refine ⟨_, rfl, hK _ _ ?_⟩
   clear hK K
   try simp only [Act.put, LT1, LT2, LT3]
   refine Gl.wpAny_only (i := 15) (by kernel_rfl) rfl rfl (fun K hK => ?_)
   refine Gl.wp_callOf 67 #[.pointer (some ⟨g, 0, none⟩), .int .i64 n, .agg #[.int .i64 ak, .int .i64 ae], .int .i64 4] (by kernel_rfl) (HD _ HY.out) ?_
   rintro e Z ⟨rfl, sv2, lv2, hZ1, hZ2⟩
   have HZ := hide (And.intro hZ1 (HFY.out.trans hZ2))
   clear hZ1 hZ2
   refine ⟨_, rfl, hK _ _ ?_⟩
   clear hK K
   try simp only [Act.put, LT1, LT2, LT3]
   refine wpAny_done (by kernel_rfl) ?_ _
   go_wp2
   go_ret2
   exact ⟨rfl, sv2, lv2, HZ.out.1, HZ.out.2⟩
end Go.Proofs.YtklibmijiecbfaaGreat
