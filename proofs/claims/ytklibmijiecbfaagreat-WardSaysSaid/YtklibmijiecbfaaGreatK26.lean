/- Filter. -/
import Derived.Test.YtklibmijiecbfaaGreatK16
import Derived.Deep.DeepCutAuto
import Derived.Deep.RegionHeld3
namespace Go.Proofs.YtklibmijiecbfaaGreat
open Go.RowKit Mm

theorem WX.isPol {g gm : Nat} {P : PV} {s : WS} {lv : Value} {W : World} (h : WX g gm P s lv W) : IsPol P.oa P.cap P.p W := h.pol W (fun _ _ _ _ _ => rfl) h.bd
theorem vrow_cells {W : World} {r : Nat} (h : W.heap[r]? = some (.cells #[.int .i64 0, .int .i64 0, .int .i64 0] 121 (0, 0))) :
  (W.cell? ⟨r, 0, none⟩ = some (.int .i64 0) ∧ W.cell? ⟨r, 1, none⟩ = some (.int .i64 0) ∧ W.cell? ⟨r, 2, none⟩ = some (.int .i64 0)) ∧ W.frozen? ⟨r, 0, none⟩ = false ∧ W.frozen? ⟨r, 1, none⟩ = false ∧ W.frozen? ⟨r, 2, none⟩ = false :=
 ⟨⟨cell_of_row _ _ 0 _ _ _ h, cell_of_row _ _ 1 _ _ _ h, cell_of_row _ _ 2 _ _ _ h⟩, frozen_of_row _ _ 0 _ _ h, frozen_of_row _ _ 1 _ _ h, frozen_of_row _ _ 2 _ _ h⟩
theorem vset3 {W : World} {r : Nat} (h : W.heap[r]? = some (.cells #[.int .i64 0, .int .i64 0, .int .i64 0] 121 (0, 0))) (v0 v1 v2 : Value) :
  ((W.setCell ⟨r, 0, none⟩ v0).setCell ⟨r, 1, none⟩ v1).setCell ⟨r, 2, none⟩ v2 = W.setRow r #[v0, v1, v2] := by
 rw [setCell_eq_setRow _ _ 0 _ _ _ _ h, setCell_eq_setRow _ _ 1 _ _ _ _ (setRow_heap _ _ _ _ _ _ h), setRow_again _ _ _ _ _ _ h, setCell_eq_setRow _ _ 2 _ _ _ _ (setRow_heap _ _ _ _ _ _ h), setRow_again _ _ _ _ _ _ h]
 rfl
theorem keepv {Y : World} {r b o : Nat} {u v0 v1 v2 : Value} (hn : b ≠ r) (h : Y.cell? ⟨b, o, none⟩ = some u) : (((Y.setCell ⟨r, 0, none⟩ v0).setCell ⟨r, 1, none⟩ v1).setCell ⟨r, 2, none⟩ v2).cell? ⟨b, o, none⟩ = some u := by
 rw [cell_heap (Below.heap_setCell _ ⟨r, 2, none⟩ v2 b hn) o, cell_heap (Below.heap_setCell _ ⟨r, 1, none⟩ v1 b hn) o, cell_heap (Below.heap_setCell _ ⟨r, 0, none⟩ v0 b hn) o]
 exact h
set_option maxHeartbeats 2000000 in
set_option maxRecDepth 20000 in
theorem filter_any {g gm : Nat} {P : PV} {s : WS} {lv : Value} {W : World} (n : Nat) (hn : n < 3) (hp : polF P.p = 0) (hk : KlOk (s.T n).call) (h : WX g gm P s lv W) (hlog : s.log.length ≤ 1000000) :
  Calls Tryz.prog 27 #[.pointer (some ⟨g, 0, none⟩), .int .i64 n] W (Goes g gm P (filterS P.p n s) lv W) := by
 have j1 : (0 : Int) ≤ n := by omega
 have j2 : (n : Int) < 3 := by omega
 obtain ⟨k, hkk⟩ : ∃ k, k = (s.T n).call := ⟨_, rfl⟩
 rw [← hkk] at hk
 have HJ := fun X hX => judge_any P.p P.oa P.cap k hk X hX
 have hjv : judgeV P.p k = .tuple #[verV (judgeR P.p k), .nilIface] := by unfold judgeV; rw [if_pos hp, hp]; rfl
 rw [hjv] at HJ
 have hact := judge_act hp k
 have HFS := hide (show filterS P.p n s = if (judgeR P.p k).1.kind = 4 then s.put n { s.T n with phase := 2 } else doS n (judgeR P.p k).1 5 s by rw [hkk]; rfl)
 obtain ⟨⟨⟨ak, ae⟩, ix⟩, hv⟩ : ∃ v, v = judgeR P.p k := ⟨_, rfl⟩
 rw [← hv] at HJ hact HFS
 unfold verV verC polV klV klC at HJ
 simp only at HJ hact HFS
 have c0 : W.cell? ⟨g, 0, none⟩ = some (.slice P.oa P.p.rules.length P.cap) := h.cell 0 (by omega)
 have c1 : W.cell? ⟨g, 1, none⟩ = some (.int .i64 P.p.els.kind) := h.cell 1 (by omega)
 have c2 : W.cell? ⟨g, 2, none⟩ = some (.int .i64 P.p.els.errno) := h.cell 2 (by omega)
 have x1 := h.th n 1 hn (by omega)
 have x2 := h.th n 2 hn (by omega)
 have x3 := h.th n 3 hn (by omega)
 have x4 := h.th n 4 hn (by omega)
 have x5 := h.th n 5 hn (by omega)
 have x6 := h.th n 6 hn (by omega)
 rw [(cellT_call _).1, ← hkk] at x1
 rw [(cellT_call _).2.1, ← hkk] at x2
 rw [(cellT_call _).2.2.1, ← hkk] at x3
 rw [(cellT_call _).2.2.2.1, ← hkk] at x4
 rw [(cellT_call _).2.2.2.2.1, ← hkk] at x5
 rw [(cellT_call _).2.2.2.2.2, ← hkk] at x6
 have hI := h.isPol
 have HI := hide (hI.on (Below.refl _ W).drew)
 have HI2 := hide (hI.on (box_below W (.cells #[.int .i64 0, .int .i64 0, .int .i64 0] 121)).drew)
 have HH := hide h
 have hgW : g ≠ W.heap.size := Nat.ne_of_lt h.glt
 have zb : (W.alloc (.cells #[.int .i64 0, .int .i64 0, .int .i64 0] 121)).drew.heap[W.heap.size]? = some (.cells #[.int .i64 0, .int .i64 0, .int .i64 0] 121 (0, 0)) := heap_alloc_new W _
 have kb := fun {b o v} (hc : W.cell? ⟨b, o, none⟩ = some v) => keep_cell (box_below W (.cells #[.int .i64 0, .int .i64 0, .int .i64 0] 121)) hc
 have y0 := kb c0
 have y1 := kb c1
 have y2 := kb c2
 have z1 := kb x1
 have z2 := kb x2
 have z3 := kb x3
 have z4 := kb x4
 have z5 := kb x5
 have z6 := kb x6
 obtain ⟨pn, hpn⟩ : ∃ m, m = P.p.rules.length := ⟨_, rfl⟩
 obtain ⟨pk, hpk⟩ : ∃ m, m = P.p.els.kind := ⟨_, rfl⟩
 obtain ⟨pe, hpe⟩ : ∃ m, m = P.p.els.errno := ⟨_, rfl⟩
 rw [← hpn] at c0 y0
 rw [← hpk] at c1 y1
 rw [← hpe] at c2 y2
 rw [← hpn, ← hpk, ← hpe] at HJ
 clear kb h hI hkk hv hjv hpn hpk hpe hk
 replace c0 : W.drew.cell? _ = _ := c0
 replace c1 : W.drew.cell? _ = _ := c1
 replace c2 : W.drew.cell? _ = _ := c2
 replace x1 : W.drew.cell? _ = _ := x1
 replace x2 : W.drew.cell? _ = _ := x2
 replace x3 : W.drew.cell? _ = _ := x3
 replace x4 : W.drew.cell? _ = _ := x4
 replace x5 : W.drew.cell? _ = _ := x5
 replace x6 : W.drew.cell? _ = _ := x6
 replace y0 : (W.alloc (.cells #[.int .i64 0, .int .i64 0, .int .i64 0] 121)).drew.cell? _ = _ := y0
 replace y1 : (W.alloc (.cells #[.int .i64 0, .int .i64 0, .int .i64 0] 121)).drew.cell? _ = _ := y1
 replace y2 : (W.alloc (.cells #[.int .i64 0, .int .i64 0, .int .i64 0] 121)).drew.cell? _ = _ := y2
 replace z1 : (W.alloc (.cells #[.int .i64 0, .int .i64 0, .int .i64 0] 121)).drew.cell? _ = _ := z1
 replace z2 : (W.alloc (.cells #[.int .i64 0, .int .i64 0, .int .i64 0] 121)).drew.cell? _ = _ := z2
 replace z3 : (W.alloc (.cells #[.int .i64 0, .int .i64 0, .int .i64 0] 121)).drew.cell? _ = _ := z3
 replace z4 : (W.alloc (.cells #[.int .i64 0, .int .i64 0, .int .i64 0] 121)).drew.cell? _ = _ := z4
 replace z5 : (W.alloc (.cells #[.int .i64 0, .int .i64 0, .int .i64 0] 121)).drew.cell? _ = _ := z5
 replace z6 : (W.alloc (.cells #[.int .i64 0, .int .i64 0, .int .i64 0] 121)).drew.cell? _ = _ := z6
 go_enter Tryz.func27, Tryz.ntmps27
 go_wp2_with fail
 go_cut [5] (fun S wc => ∃ r5 : Nat, S = .pointer (some ⟨r5, 0, none⟩) ∧ Hid (Below W.heap.size W wc) ∧ Hid (wc.heap[r5]? = some (.cells #[.int .i64 ak, .int .i64 ae, .int .i64 ix] 121 (0, 0))))
 case first =>
  go_region_held3 (fun w' => w'.cell? ⟨g, 0, none⟩ = some (.slice P.oa pn P.cap) ∧ w'.cell? ⟨g, 1, none⟩ = some (.int .i64 pk) ∧ w'.cell? ⟨g, 2, none⟩ = some (.int .i64 pe) ∧ w'.cell? ⟨g, 4 + n * 29 + 1, none⟩ = some (.int .u32 k.arch) ∧ w'.cell? ⟨g, 4 + n * 29 + 2, none⟩ = some (.int .u32 k.nr) ∧ w'.cell? ⟨g, 4 + n * 29 + 3, none⟩ = some (.int .u64 k.a0) ∧ w'.cell? ⟨g, 4 + n * 29 + 4, none⟩ = some (.int .u64 k.a1) ∧ w'.cell? ⟨g, 4 + n * 29 + 5, none⟩ = some (.int .u64 k.a2) ∧ w'.cell? ⟨g, 4 + n * 29 + 6, none⟩ = some (.int .u64 k.a3))
   (first | (with_reducible exact ⟨c0, c1, c2, x1, x2, x3, x4, x5, x6⟩) | (with_reducible exact ⟨y0, y1, y2, z1, z2, z3, z4, z5, z6⟩) | (with_reducible exact ⟨r0, r1, r2, r3, r4, r5, r6, r7, r8⟩) | (with_reducible exact ⟨keep_cell (box_below W.drew _) c0, keep_cell (box_below W.drew _) c1, keep_cell (box_below W.drew _) c2, keep_cell (box_below W.drew _) x1, keep_cell (box_below W.drew _) x2, keep_cell (box_below W.drew _) x3, keep_cell (box_below W.drew _) x4, keep_cell (box_below W.drew _) x5, keep_cell (box_below W.drew _) x6⟩) | (with_reducible exact ⟨keep_cell (box_below Y _) r0, keep_cell (box_below Y _) r1, keep_cell (box_below Y _) r2, keep_cell (box_below Y _) r3, keep_cell (box_below Y _) r4, keep_cell (box_below Y _) r5, keep_cell (box_below Y _) r6, keep_cell (box_below Y _) r7, keep_cell (box_below Y _) r8⟩) | (with_reducible exact ⟨keepv hgW r0, keepv hgW r1, keepv hgW r2, keepv hgW r3, keepv hgW r4, keepv hgW r5, keepv hgW r6, keepv hgW r7, keepv hgW r8⟩) | go_keep)
   ((first
    | (go_at_call 50; with_reducible refine (HJ W.drew HI.out).mono ?_; rintro e Y ⟨rfl, hY⟩; have HB := hide (below_next (Below.refl _ W).drew hY); have r0 := keep_cell hY c0; have r1 := keep_cell hY c1; have r2 := keep_cell hY c2; have r3 := keep_cell hY x1; have r4 := keep_cell hY x2; have r5 := keep_cell hY x3; have r6 := keep_cell hY x4; have r7 := keep_cell hY x5; have r8 := keep_cell hY x6; clear hY)
    | (go_at_call 50; refine (HJ (W.alloc (.cells #[.int .i64 0, .int .i64 0, .int .i64 0] 121)).drew HI2.out).mono ?_; rintro e Y ⟨rfl, hY⟩; have HB := hide (below_next (box_below W (.cells #[.int .i64 0, .int .i64 0, .int .i64 0] 121)).drew hY); have r0 := keep_cell hY y0; have r1 := keep_cell hY y1; have r2 := keep_cell hY y2; have r3 := keep_cell hY z1; have r4 := keep_cell hY z2; have r5 := keep_cell hY z3; have r6 := keep_cell hY z4; have r7 := keep_cell hY z5; have r8 := keep_cell hY z6; have uh := (hY.block W.heap.size (by show _ < (W.alloc _).heap.size; rw [World.size_alloc]; exact Nat.lt_succ_self _)).trans zb; obtain ⟨⟨p0, p1, p2⟩, g0, g1, g2⟩ := vrow_cells uh; clear hY)))
  all_goals
   go_wp2_with fail
   go_meet
   case rel => first
    | with_reducible exact ⟨Y.heap.size, rfl, hide (below_next HB.out (box_below _ _)), hide (heap_alloc_new _ _)⟩
    | exact ⟨W.heap.size, rfl, hide (by rw [vset3 uh]; exact below_setRow HB.out (Nat.le_refl _) _), hide (by rw [vset3 uh]; exact setRow_heap _ _ _ _ _ _ uh)⟩
 case rest =>
  obtain ⟨r5, rfl, HB, HR⟩ := hcut
  clear c0 c1 c2 x1 x2 x3 x4 x5 x6 y0 y1 y2 z1 z2 z3 z4 z5 z6 zb HI HI2 HJ
  have d0 : wc.cell? ⟨r5, 0, none⟩ = some (.int .i64 ak) := cell_of_row _ _ 0 _ _ _ HR.out
  have d1 : wc.cell? ⟨r5, 1, none⟩ = some (.int .i64 ae) := cell_of_row _ _ 1 _ _ _ HR.out
  have HX := hide (HH.out.on HB.out)
  by_cases h4 : ak = 4
  ·
   rw [if_pos h4] at HFS
   subst h4
   have cp := HX.out.phase n hn
   have fp := HX.out.fro (4 + n * 29)
   have HS := hide (HX.out.setPhase n 2 hn)
   go_wp2
   go_end0
   rw [HFS.out]
   exact ⟨rfl, lv, HS.out, (Fr.of lv HB.out).trans (Fr.set lv _ _ _)⟩
  ·
   rw [if_neg h4] at HFS
   have ha := hact.resolve_left h4
   have HD := do_any n hn ⟨ak, ae⟩ ha 5 HX.out hlog
   unfold actV at HD
   simp only at HD
   have b4 : (ak == 4) = false := by simpa using h4
   clear hact ha
   go_wp2_with fail
   refine HD.mono ?_
   rintro e w' hG
   obtain ⟨rfl, h1⟩ := hG
   go_wp2
   go_end0
   rw [HFS.out]
   exact Goes.from HB.out ⟨rfl, h1⟩
end Go.Proofs.YtklibmijiecbfaaGreat
