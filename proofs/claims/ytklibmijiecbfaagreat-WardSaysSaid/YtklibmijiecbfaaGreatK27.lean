/- Judge. -/
import Derived.Test.YtklibmijiecbfaaGreatK26
namespace Go.Proofs.YtklibmijiecbfaaGreat
open Go.RowKit Mm

theorem arow_cells {W : World} {r : Nat} (h : W.heap[r]? = some (.cells #[.int .i64 0, .int .i64 0] 24 (0, 0))) :
  (W.cell? ⟨r, 0, none⟩ = some (.int .i64 0) ∧ W.cell? ⟨r, 1, none⟩ = some (.int .i64 0)) ∧ W.frozen? ⟨r, 0, none⟩ = false ∧ W.frozen? ⟨r, 1, none⟩ = false :=
 ⟨⟨cell_of_row _ _ 0 _ _ _ h, cell_of_row _ _ 1 _ _ _ h⟩, frozen_of_row _ _ 0 _ _ h, frozen_of_row _ _ 1 _ _ h⟩
theorem aset2 {W : World} {r : Nat} (h : W.heap[r]? = some (.cells #[.int .i64 0, .int .i64 0] 24 (0, 0))) (v0 v1 : Value) : (W.setCell ⟨r, 0, none⟩ v0).setCell ⟨r, 1, none⟩ v1 = W.setRow r #[v0, v1] := by
 rw [setCell_eq_setRow _ _ 0 _ _ _ _ h, setCell_eq_setRow _ _ 1 _ _ _ _ (setRow_heap _ _ _ _ _ _ h), setRow_again _ _ _ _ _ _ h]
 rfl
theorem keepa {Y : World} {r b o : Nat} {u v0 v1 : Value} (hn : b ≠ r) (h : Y.cell? ⟨b, o, none⟩ = some u) : ((Y.setCell ⟨r, 0, none⟩ v0).setCell ⟨r, 1, none⟩ v1).cell? ⟨b, o, none⟩ = some u := by
 rw [cell_heap (Below.heap_setCell _ ⟨r, 1, none⟩ v1 b hn) o, cell_heap (Below.heap_setCell _ ⟨r, 0, none⟩ v0 b hn) o]
 exact h
set_option maxHeartbeats 4000000 in
set_option maxRecDepth 20000 in
theorem wjudge_any {g gm : Nat} {P : PV} {s : WS} {lv : Value} {W : World} (n : Nat) (hn : n < 3) (hp : polF P.p = 0) (hk : KlOk (s.T n).call) (hvo : VsOk (vsOf (s.T n).vals)) (h : WX g gm P s lv W) (hlog : s.log.length ≤ 1000000) :
  Calls Tryz.prog 29 #[.pointer (some ⟨g, 0, none⟩), .int .i64 n] W (Goes g gm P (judgeS P.p n s) lv W) := by
 have j1 : (0 : Int) ≤ n := by omega
 have j2 : (n : Int) < 3 := by omega
 obtain ⟨k, hkk⟩ : ∃ k, k = (s.T n).call := ⟨_, rfl⟩
 obtain ⟨v, hvv⟩ : ∃ v, v = vsOf (s.T n).vals := ⟨_, rfl⟩
 rw [← hkk] at hk
 rw [← hvv] at hvo
 have HJ := fun X hX => decide_any P.p P.oa P.cap k hk v hvo X hX
 have hjv : decideV P.p k v = .tuple #[actV (decideR P.p k v), .nilIface] := by unfold decideV; rw [if_pos hp, hp]; rfl
 rw [hjv] at HJ
 have hact := decide_act hp k v
 have HFS := hide (show judgeS P.p n s = doS n (decideR P.p k v) 4 s by rw [hkk, hvv]; rfl)
 obtain ⟨⟨ak, ae⟩, hv⟩ : ∃ a, a = decideR P.p k v := ⟨_, rfl⟩
 rw [← hv] at HJ hact HFS
 unfold actV polV klV klC vsV vsC at HJ
 simp only at HJ hact HFS
 have c0 : W.cell? ⟨g, 0, none⟩ = some (.slice P.oa P.p.rules.length P.cap) := h.cell 0 (by omega)
 have c1 : W.cell? ⟨g, 1, none⟩ = some (.int .i64 P.p.els.kind) := h.cell 1 (by omega)
 have c2 : W.cell? ⟨g, 2, none⟩ = some (.int .i64 P.p.els.errno) := h.cell 2 (by omega)
 have x1 := h.th n 1 hn (by omega)
 have x2 := h.th n 2 hn (by omega)
 have x3 := h.th n 3 hn (by omega)
 have x4 := h.th n 4 hn (by omega)
 have x5 := h.th n 5 hn (by omega)
 have x6 := h.th n 6 hn (by omega)
 rw [(cellT_call _).1, ← hkk] at x1
 rw [(cellT_call _).2.1, ← hkk] at x2
 rw [(cellT_call _).2.2.1, ← hkk] at x3
 rw [(cellT_call _).2.2.2.1, ← hkk] at x4
 rw [(cellT_call _).2.2.2.2.1, ← hkk] at x5
 rw [(cellT_call _).2.2.2.2.2, ← hkk] at x6
 have v0 : W.cell? ⟨g, 4 + n * 29 + 17, none⟩ = some (.string v.v0.path) := by rw [h.th n 17 hn (by omega), hvv]; exact congrArg some (cellT_val _ 0).1
 have v1 : W.cell? ⟨g, 4 + n * 29 + 18, none⟩ = some (.int .u32 v.v0.ip) := by rw [h.th n 18 hn (by omega), hvv]; exact congrArg some (cellT_val _ 0).2.1
 have v2 : W.cell? ⟨g, 4 + n * 29 + 19, none⟩ = some (.int .i64 v.v0.port) := by rw [h.th n 19 hn (by omega), hvv]; exact congrArg some (cellT_val _ 0).2.2
 have v3 : W.cell? ⟨g, 4 + n * 29 + 20, none⟩ = some (.string v.v1.path) := by rw [h.th n 20 hn (by omega), hvv]; exact congrArg some (cellT_val _ 1).1
 have v4 : W.cell? ⟨g, 4 + n * 29 + 21, none⟩ = some (.int .u32 v.v1.ip) := by rw [h.th n 21 hn (by omega), hvv]; exact congrArg some (cellT_val _ 1).2.1
 have v5 : W.cell? ⟨g, 4 + n * 29 + 22, none⟩ = some (.int .i64 v.v1.port) := by rw [h.th n 22 hn (by omega), hvv]; exact congrArg some (cellT_val _ 1).2.2
 have v6 : W.cell? ⟨g, 4 + n * 29 + 23, none⟩ = some (.string v.v2.path) := by rw [h.th n 23 hn (by omega), hvv]; exact congrArg some (cellT_val _ 2).1
 have v7 : W.cell? ⟨g, 4 + n * 29 + 24, none⟩ = some (.int .u32 v.v2.ip) := by rw [h.th n 24 hn (by omega), hvv]; exact congrArg some (cellT_val _ 2).2.1
 have v8 : W.cell? ⟨g, 4 + n * 29 + 25, none⟩ = some (.int .i64 v.v2.port) := by rw [h.th n 25 hn (by omega), hvv]; exact congrArg some (cellT_val _ 2).2.2
 have v9 : W.cell? ⟨g, 4 + n * 29 + 26, none⟩ = some (.string v.v3.path) := by rw [h.th n 26 hn (by omega), hvv]; exact congrArg some (cellT_val _ 3).1
 have v10 : W.cell? ⟨g, 4 + n * 29 + 27, none⟩ = some (.int .u32 v.v3.ip) := by rw [h.th n 27 hn (by omega), hvv]; exact congrArg some (cellT_val _ 3).2.1
 have v11 : W.cell? ⟨g, 4 + n * 29 + 28, none⟩ = some (.int .i64 v.v3.port) := by rw [h.th n 28 hn (by omega), hvv]; exact congrArg some (cellT_val _ 3).2.2
 have hI := h.isPol
 have HI := hide (hI.on (Below.refl _ W).drew)
 have HI2 := hide (hI.on (box_below W (.cells #[.int .i64 0, .int .i64 0] 24)).drew)
 have HH := hide h
 have hgW : g ≠ W.heap.size := Nat.ne_of_lt h.glt
 have zb : (W.alloc (.cells #[.int .i64 0, .int .i64 0] 24)).drew.heap[W.heap.size]? = some (.cells #[.int .i64 0, .int .i64 0] 24 (0, 0)) := heap_alloc_new W _
 have kb := fun {b o v} (hc : W.cell? ⟨b, o, none⟩ = some v) => keep_cell (box_below W (.cells #[.int .i64 0, .int .i64 0] 24)) hc
 have yc0 := kb c0
 have yc1 := kb c1
 have yc2 := kb c2
 have yx1 := kb x1
 have yx2 := kb x2
 have yx3 := kb x3
 have yx4 := kb x4
 have yx5 := kb x5
 have yx6 := kb x6
 have yv0 := kb v0
 have yv1 := kb v1
 have yv2 := kb v2
 have yv3 := kb v3
 have yv4 := kb v4
 have yv5 := kb v5
 have yv6 := kb v6
 have yv7 := kb v7
 have yv8 := kb v8
 have yv9 := kb v9
 have yv10 := kb v10
 have yv11 := kb v11
 obtain ⟨pn, hpn⟩ : ∃ m, m = P.p.rules.length := ⟨_, rfl⟩
 obtain ⟨pk, hpk⟩ : ∃ m, m = P.p.els.kind := ⟨_, rfl⟩
 obtain ⟨pe, hpe⟩ : ∃ m, m = P.p.els.errno := ⟨_, rfl⟩
 rw [← hpn] at c0 yc0
 rw [← hpk] at c1 yc1
 rw [← hpe] at c2 yc2
 rw [← hpn, ← hpk, ← hpe] at HJ
 clear kb h hI hkk hvv hv hjv hpn hpk hpe hk hvo
 replace c0 : W.drew.cell? _ = _ := c0
 replace c1 : W.drew.cell? _ = _ := c1
 replace c2 : W.drew.cell? _ = _ := c2
 replace x1 : W.drew.cell? _ = _ := x1
 replace x2 : W.drew.cell? _ = _ := x2
 replace x3 : W.drew.cell? _ = _ := x3
 replace x4 : W.drew.cell? _ = _ := x4
 replace x5 : W.drew.cell? _ = _ := x5
 replace x6 : W.drew.cell? _ = _ := x6
 replace v0 : W.drew.cell? _ = _ := v0
 replace v1 : W.drew.cell? _ = _ := v1
 replace v2 : W.drew.cell? _ = _ := v2
 replace v3 : W.drew.cell? _ = _ := v3
 replace v4 : W.drew.cell? _ = _ := v4
 replace v5 : W.drew.cell? _ = _ := v5
 replace v6 : W.drew.cell? _ = _ := v6
 replace v7 : W.drew.cell? _ = _ := v7
 replace v8 : W.drew.cell? _ = _ := v8
 replace v9 : W.drew.cell? _ = _ := v9
 replace v10 : W.drew.cell? _ = _ := v10
 replace v11 : W.drew.cell? _ = _ := v11
 replace yc0 : (W.alloc (.cells #[.int .i64 0, .int .i64 0] 24)).drew.cell? _ = _ := yc0
 replace yc1 : (W.alloc (.cells #[.int .i64 0, .int .i64 0] 24)).drew.cell? _ = _ := yc1
 replace yc2 : (W.alloc (.cells #[.int .i64 0, .int .i64 0] 24)).drew.cell? _ = _ := yc2
 replace yx1 : (W.alloc (.cells #[.int .i64 0, .int .i64 0] 24)).drew.cell? _ = _ := yx1
 replace yx2 : (W.alloc (.cells #[.int .i64 0, .int .i64 0] 24)).drew.cell? _ = _ := yx2
 replace yx3 : (W.alloc (.cells #[.int .i64 0, .int .i64 0] 24)).drew.cell? _ = _ := yx3
 replace yx4 : (W.alloc (.cells #[.int .i64 0, .int .i64 0] 24)).drew.cell? _ = _ := yx4
 replace yx5 : (W.alloc (.cells #[.int .i64 0, .int .i64 0] 24)).drew.cell? _ = _ := yx5
 replace yx6 : (W.alloc (.cells #[.int .i64 0, .int .i64 0] 24)).drew.cell? _ = _ := yx6
 replace yv0 : (W.alloc (.cells #[.int .i64 0, .int .i64 0] 24)).drew.cell? _ = _ := yv0
 replace yv1 : (W.alloc (.cells #[.int .i64 0, .int .i64 0] 24)).drew.cell? _ = _ := yv1
 replace yv2 : (W.alloc (.cells #[.int .i64 0, .int .i64 0] 24)).drew.cell? _ = _ := yv2
 replace yv3 : (W.alloc (.cells #[.int .i64 0, .int .i64 0] 24)).drew.cell? _ = _ := yv3
 replace yv4 : (W.alloc (.cells #[.int .i64 0, .int .i64 0] 24)).drew.cell? _ = _ := yv4
 replace yv5 : (W.alloc (.cells #[.int .i64 0, .int .i64 0] 24)).drew.cell? _ = _ := yv5
 replace yv6 : (W.alloc (.cells #[.int .i64 0, .int .i64 0] 24)).drew.cell? _ = _ := yv6
 replace yv7 : (W.alloc (.cells #[.int .i64 0, .int .i64 0] 24)).drew.cell? _ = _ := yv7
 replace yv8 : (W.alloc (.cells #[.int .i64 0, .int .i64 0] 24)).drew.cell? _ = _ := yv8
 replace yv9 : (W.alloc (.cells #[.int .i64 0, .int .i64 0] 24)).drew.cell? _ = _ := yv9
 replace yv10 : (W.alloc (.cells #[.int .i64 0, .int .i64 0] 24)).drew.cell? _ = _ := yv10
 replace yv11 : (W.alloc (.cells #[.int .i64 0, .int .i64 0] 24)).drew.cell? _ = _ := yv11
 go_enter Tryz.func29, Tryz.ntmps29
 go_wp2_with fail
 go_cut [5] (fun S wc => ∃ r5 : Nat, S = .pointer (some ⟨r5, 0, none⟩) ∧ Hid (Below W.heap.size W wc) ∧ Hid (wc.heap[r5]? = some (.cells #[.int .i64 ak, .int .i64 ae] 24 (0, 0))))
 case first =>
  go_region_held3 (fun w' => w'.cell? ⟨g, 0, none⟩ = some (.slice P.oa pn P.cap) ∧ w'.cell? ⟨g, 1, none⟩ = some (.int .i64 pk) ∧ w'.cell? ⟨g, 2, none⟩ = some (.int .i64 pe) ∧ w'.cell? ⟨g, 4 + n * 29 + 1, none⟩ = some (.int .u32 k.arch) ∧ w'.cell? ⟨g, 4 + n * 29 + 2, none⟩ = some (.int .u32 k.nr) ∧ w'.cell? ⟨g, 4 + n * 29 + 3, none⟩ = some (.int .u64 k.a0) ∧ w'.cell? ⟨g, 4 + n * 29 + 4, none⟩ = some (.int .u64 k.a1) ∧ w'.cell? ⟨g, 4 + n * 29 + 5, none⟩ = some (.int .u64 k.a2) ∧ w'.cell? ⟨g, 4 + n * 29 + 6, none⟩ = some (.int .u64 k.a3) ∧ w'.cell? ⟨g, 4 + n * 29 + 17, none⟩ = some (.string v.v0.path) ∧ w'.cell? ⟨g, 4 + n * 29 + 18, none⟩ = some (.int .u32 v.v0.ip) ∧ w'.cell? ⟨g, 4 + n * 29 + 19, none⟩ = some (.int .i64 v.v0.port) ∧ w'.cell? ⟨g, 4 + n * 29 + 20, none⟩ = some (.string v.v1.path) ∧ w'.cell? ⟨g, 4 + n * 29 + 21, none⟩ = some (.int .u32 v.v1.ip) ∧ w'.cell? ⟨g, 4 + n * 29 + 22, none⟩ = some (.int .i64 v.v1.port) ∧ w'.cell? ⟨g, 4 + n * 29 + 23, none⟩ = some (.string v.v2.path) ∧ w'.cell? ⟨g, 4 + n * 29 + 24, none⟩ = some (.int .u32 v.v2.ip) ∧ w'.cell? ⟨g, 4 + n * 29 + 25, none⟩ = some (.int .i64 v.v2.port) ∧ w'.cell? ⟨g, 4 + n * 29 + 26, none⟩ = some (.string v.v3.path) ∧ w'.cell? ⟨g, 4 + n * 29 + 27, none⟩ = some (.int .u32 v.v3.ip) ∧ w'.cell? ⟨g, 4 + n * 29 + 28, none⟩ = some (.int .i64 v.v3.port))
   (first | (with_reducible exact ⟨c0, c1, c2, x1, x2, x3, x4, x5, x6, v0, v1, v2, v3, v4, v5, v6, v7, v8, v9, v10, v11⟩) | (with_reducible exact ⟨yc0, yc1, yc2, yx1, yx2, yx3, yx4, yx5, yx6, yv0, yv1, yv2, yv3, yv4, yv5, yv6, yv7, yv8, yv9, yv10, yv11⟩) | (with_reducible exact ⟨r0, r1, r2, r3, r4, r5, r6, r7, r8, r9, r10, r11, r12, r13, r14, r15, r16, r17, r18, r19, r20⟩) | (with_reducible exact ⟨keep_cell (box_below W.drew _) c0, keep_cell (box_below W.drew _) c1, keep_cell (box_below W.drew _) c2, keep_cell (box_below W.drew _) x1, keep_cell (box_below W.drew _) x2, keep_cell (box_below W.drew _) x3, keep_cell (box_below W.drew _) x4, keep_cell (box_below W.drew _) x5, keep_cell (box_below W.drew _) x6, keep_cell (box_below W.drew _) v0, keep_cell (box_below W.drew _) v1, keep_cell (box_below W.drew _) v2, keep_cell (box_below W.drew _) v3, keep_cell (box_below W.drew _) v4, keep_cell (box_below W.drew _) v5, keep_cell (box_below W.drew _) v6, keep_cell (box_below W.drew _) v7, keep_cell (box_below W.drew _) v8, keep_cell (box_below W.drew _) v9, keep_cell (box_below W.drew _) v10, keep_cell (box_below W.drew _) v11⟩) | (with_reducible exact ⟨keep_cell (box_below Y _) r0, keep_cell (box_below Y _) r1, keep_cell (box_below Y _) r2, keep_cell (box_below Y _) r3, keep_cell (box_below Y _) r4, keep_cell (box_below Y _) r5, keep_cell (box_below Y _) r6, keep_cell (box_below Y _) r7, keep_cell (box_below Y _) r8, keep_cell (box_below Y _) r9, keep_cell (box_below Y _) r10, keep_cell (box_below Y _) r11, keep_cell (box_below Y _) r12, keep_cell (box_below Y _) r13, keep_cell (box_below Y _) r14, keep_cell (box_below Y _) r15, keep_cell (box_below Y _) r16, keep_cell (box_below Y _) r17, keep_cell (box_below Y _) r18, keep_cell (box_below Y _) r19, keep_cell (box_below Y _) r20⟩) | (with_reducible exact ⟨keepa hgW r0, keepa hgW r1, keepa hgW r2, keepa hgW r3, keepa hgW r4, keepa hgW r5, keepa hgW r6, keepa hgW r7, keepa hgW r8, keepa hgW r9, keepa hgW r10, keepa hgW r11, keepa hgW r12, keepa hgW r13, keepa hgW r14, keepa hgW r15, keepa hgW r16, keepa hgW r17, keepa hgW r18, keepa hgW r19, keepa hgW r20⟩) | go_keep)
   ((first
    | (go_at_call 57; with_reducible refine (HJ W.drew HI.out).mono ?_; rintro e Y ⟨rfl, hY⟩; have HB := hide (below_next (Below.refl _ W).drew hY); have r0 := keep_cell hY c0; have r1 := keep_cell hY c1; have r2 := keep_cell hY c2; have r3 := keep_cell hY x1; have r4 := keep_cell hY x2; have r5 := keep_cell hY x3; have r6 := keep_cell hY x4; have r7 := keep_cell hY x5; have r8 := keep_cell hY x6; have r9 := keep_cell hY v0; have r10 := keep_cell hY v1; have r11 := keep_cell hY v2; have r12 := keep_cell hY v3; have r13 := keep_cell hY v4; have r14 := keep_cell hY v5; have r15 := keep_cell hY v6; have r16 := keep_cell hY v7; have r17 := keep_cell hY v8; have r18 := keep_cell hY v9; have r19 := keep_cell hY v10; have r20 := keep_cell hY v11; clear hY)
    | (go_at_call 57; refine (HJ (W.alloc (.cells #[.int .i64 0, .int .i64 0] 24)).drew HI2.out).mono ?_; rintro e Y ⟨rfl, hY⟩; have HB := hide (below_next (box_below W (.cells #[.int .i64 0, .int .i64 0] 24)).drew hY); have r0 := keep_cell hY yc0; have r1 := keep_cell hY yc1; have r2 := keep_cell hY yc2; have r3 := keep_cell hY yx1; have r4 := keep_cell hY yx2; have r5 := keep_cell hY yx3; have r6 := keep_cell hY yx4; have r7 := keep_cell hY yx5; have r8 := keep_cell hY yx6; have r9 := keep_cell hY yv0; have r10 := keep_cell hY yv1; have r11 := keep_cell hY yv2; have r12 := keep_cell hY yv3; have r13 := keep_cell hY yv4; have r14 := keep_cell hY yv5; have r15 := keep_cell hY yv6; have r16 := keep_cell hY yv7; have r17 := keep_cell hY yv8; have r18 := keep_cell hY yv9; have r19 := keep_cell hY yv10; have r20 := keep_cell hY yv11; have uh := (hY.block W.heap.size (by show _ < (W.alloc _).heap.size; rw [World.size_alloc]; exact Nat.lt_succ_self _)).trans zb; obtain ⟨⟨p0, p1⟩, g0, g1⟩ := arow_cells uh; clear hY)))
  all_goals
   go_wp2_with fail
   go_meet
   case rel => first
    | with_reducible exact ⟨Y.heap.size, rfl, hide (below_next HB.out (box_below _ _)), hide (heap_alloc_new _ _)⟩
    | exact ⟨W.heap.size, rfl, hide (by rw [aset2 uh]; exact below_setRow HB.out (Nat.le_refl _) _), hide (by rw [aset2 uh]; exact setRow_heap _ _ _ _ _ _ uh)⟩
 case rest =>
  obtain ⟨r5, rfl, HB, HR⟩ := hcut
  clear c0 c1 c2 x1 x2 x3 x4 x5 x6 v0 v1 v2 v3 v4 v5 v6 v7 v8 v9 v10 v11 yc0 yc1 yc2 yx1 yx2 yx3 yx4 yx5 yx6 yv0 yv1 yv2 yv3 yv4 yv5 yv6 yv7 yv8 yv9 yv10 yv11 zb HI HI2 HJ
  have d0 : wc.cell? ⟨r5, 0, none⟩ = some (.int .i64 ak) := cell_of_row _ _ 0 _ _ _ HR.out
  have d1 : wc.cell? ⟨r5, 1, none⟩ = some (.int .i64 ae) := cell_of_row _ _ 1 _ _ _ HR.out
  have HX := hide (HH.out.on HB.out)
  have HD := do_any n hn ⟨ak, ae⟩ hact 4 HX.out hlog
  unfold actV at HD
  simp only at HD
  clear hact
  go_wp2_with fail
  refine HD.mono ?_
  rintro e w' hG
  obtain ⟨rfl, h1⟩ := hG
  go_wp2
  go_end0
  rw [HFS.out]
  exact Goes.from HB.out ⟨rfl, h1⟩
end Go.Proofs.YtklibmijiecbfaaGreat
