/- pointersOf. -/
import Derived.Test.YtklibmijiecbfaaGreatK12
import Derived.Deep.RegionLaw
import Derived.Deep.DeepCutAuto
import Derived.Deep.AppendLies
import Derived.Deep.MidRow
namespace Go.Proofs.YtklibmijiecbfaaGreat
open Go.RowKit Mm

structure IsInts (base : Nat) (oa : Option Addr) (l : List Nat) (W : World) : Prop where
 lie : 0 < l.length → ∃ b off, oa = some ⟨b, off, none⟩ ∧ base ≤ b ∧ b < W.heap.size ∧ ∀ i x, l[i]? = some x → W.cell? ⟨b, off + i, none⟩ = some (.int .i64 (x : Nat))
theorem IsInts.heap {base : Nat} {oa : Option Addr} {l : List Nat} {W V : World} (h : IsInts base oa l W) (hb : ∀ k, base ≤ k → k < W.heap.size → V.heap[k]? = W.heap[k]?) (hs : W.heap.size ≤ V.heap.size) : IsInts base oa l V :=
 ⟨fun h0 => by
  obtain ⟨b, off, h1, h4, h2, h3⟩ := h.lie h0
  exact ⟨b, off, h1, h4, by omega, fun i x hi => by rw [cell_heap (hb b h4 h2)]; exact h3 i x hi⟩⟩
theorem IsInts.on {base : Nat} {oa : Option Addr} {l : List Nat} {W V : World} (h : IsInts base oa l W) (hb : Below W.heap.size W V) : IsInts base oa l V := h.heap (fun k _ hk => hb.block k hk) hb.size
theorem IsInts.weak {base base' : Nat} {oa : Option Addr} {l : List Nat} {W : World} (h : IsInts base oa l W) (hb : base' ≤ base) : IsInts base' oa l W :=
 ⟨fun h0 => by
  obtain ⟨b, off, h1, h4, h2, h3⟩ := h.lie h0
  exact ⟨b, off, h1, by omega, h2, h3⟩⟩
def intsL (l : List Nat) : List Value := l.map fun x => Value.int .i64 (x : Nat)
theorem info_int : ∃ i, Tryz.prog.info? 3 = some i ∧ i.zero = some (.int .i64 0) ∧ i.size = 1 ∧ i.bytes = 8 := by
 have hz : (Tryz.prog.info? 3).map (·.zero) = some (some (.int .i64 0)) := by kernel_rfl
 have hs : (Tryz.prog.info? 3).map (·.size) = some 1 := by kernel_rfl
 have hb : (Tryz.prog.info? 3).map (·.bytes) = some 8 := by kernel_rfl
 cases hq : Tryz.prog.info? 3 with
 | none => rw [hq] at hs; simp at hs
 | some i =>
  rw [hq] at hz hs hb
  simp at hz hs hb
  exact ⟨i, rfl, hz, hs, hb⟩
theorem ints_owned {W : World} {base : Nat} {v : Value} {l : List Nat} (h : W.ownsRow base 3 1 v l.length (intsL l)) : ∃ oa cap, v = .slice oa l.length cap ∧ l.length ≤ cap ∧ cap ≤ maxLen ∧ IsInts base oa l W := by
 have h' := h
 rcases h.2 with ⟨rfl, hn⟩ | ⟨g, cap, cur, rfl, hb, hg, h1, h2, h3, h4⟩
 ·
  exact ⟨none, 0, by rw [hn], by omega, by unfold maxLen; omega, ⟨fun h0 => by omega⟩⟩
 ·
  refine ⟨_, cap, rfl, h1, h2, ⟨fun h0 => ⟨g, 0, rfl, (h'.lt g rfl).1, (h'.lt g rfl).2, fun i x hx => ?_⟩⟩⟩
  have h5 := h'.cells (g := g) rfl i (.int .i64 (x : Nat)) (by unfold intsL; rw [List.getElem?_map, hx]; rfl)
  rwa [show (⟨g, 0, none⟩ : Addr).add i = ⟨g, 0 + i, none⟩ by unfold Addr.add; split <;> simp_all] at h5
def kindsA (nr : Nat) : Array Value := #[.int .i64 (kindAt nr 0 : Nat), .int .i64 (kindAt nr 1 : Nat), .int .i64 (kindAt nr 2 : Nat), .int .i64 (kindAt nr 3 : Nat)]
theorem kindsA_at (nr i : Nat) (h : i < 4) : (kindsA nr)[i]? = some (.int .i64 (kindAt nr i : Nat)) := by
 rcases show i = 0 ∨ i = 1 ∨ i = 2 ∨ i = 3 by omega with rfl | rfl | rfl | rfl <;> rfl
theorem kindsA_one (nr : Nat) : (kindsA nr).all (·.oneCell') = true := by simp [kindsA, Value.oneCell']
theorem size_kinds : (Tryz.prog.info? 126).map (·.size) = some 4 := by kernel_rfl
theorem results_pts {fn : Func} {p u : Tmp} (h : fn.results = #[.tmp u, .cell p 126]) (tmps : Array Value) (w : World) (g : Nat) (cs : Array Value) (v : Value) (hs : cs.size = 4)
  (hp : tmps.getD p undef = .pointer (some ⟨g, 0, none⟩)) (hv : tmps.getD u undef = v) (hg : w.heap[g]? = some (.cells cs 126 (0, 0))) :
  (results fn tmps).run Tryz.prog w = .ok (.tuple #[v, .agg cs]) w := by
 have hl := run_loadVar_row (P := Tryz.prog) w g 126 126 cs (0, 0) _ hg Tryz.underlying126 rfl (by rw [hs]; exact size_kinds)
 rw [Array.getD_eq_getD_getElem?] at hp hv
 simp [results, h, hp, hv, asAddr, hl]
def ptsTo (nr i : Nat) : List Nat := (List.range i).filter fun j => decide (2 ≤ kindAt nr j)
theorem ptsTo_four {nr : Nat} (h : nr ≤ 8) : ptsTo nr 4 = ptsOf nr := by unfold ptsTo ptsOf; rw [if_pos h]
theorem ptsTo_succ (nr i : Nat) : ptsTo nr (i + 1) = ptsTo nr i ++ if 2 ≤ kindAt nr i then [i] else [] := by
 unfold ptsTo
 rw [List.range_succ, List.filter_append]
 congr 1
 by_cases h : 2 ≤ kindAt nr i
 ·
  rw [if_pos h]; simp [h]
 ·
  rw [if_neg h]; simp [h]
theorem ptsTo_len (nr i : Nat) : (ptsTo nr i).length ≤ i := by
 unfold ptsTo
 exact Nat.le_trans (List.length_filter_le _ _) (by simp)
theorem kind_le (nr i : Nat) : kindAt nr i ≤ 3 := by
 have key : ∀ l ∈ kindTab, ∀ x ∈ l, x ≤ 3 := by decide
 unfold kindAt
 rw [List.getD_eq_getElem?_getD, List.getD_eq_getElem?_getD]
 cases h : kindTab[nr]? with
 | none => simp
 | some l =>
  simp only [Option.getD_some]
  cases h2 : l[i]? with
  | none => simp
  | some x => exact key l (List.mem_of_getElem? h) x (List.mem_of_getElem? h2)

theorem forms_index32 (nr : Nat) (h : nr ≤ 8) (w : World) : (Instr.index 153 (.agg formsArr) (.int .u32 nr)).run Tryz.prog w = .ok (formV nr) w := by
 rcases nine h with rfl | rfl | rfl | rfl | rfl | rfl | rfl | rfl | rfl <;> kernel_rfl
theorem krow_cells {W : World} {r : Nat} (h : W.heap[r]? = some (.cells #[.int .i64 0, .int .i64 0, .int .i64 0, .int .i64 0] 126 (0, 0))) :
  (W.cell? ⟨r, 0, none⟩ = some (.int .i64 0) ∧ W.cell? ⟨r, 1, none⟩ = some (.int .i64 0) ∧ W.cell? ⟨r, 2, none⟩ = some (.int .i64 0) ∧ W.cell? ⟨r, 3, none⟩ = some (.int .i64 0)) ∧
  W.frozen? ⟨r, 0, none⟩ = false ∧ W.frozen? ⟨r, 1, none⟩ = false ∧ W.frozen? ⟨r, 2, none⟩ = false ∧ W.frozen? ⟨r, 3, none⟩ = false :=
 ⟨⟨cell_of_row _ _ 0 _ _ _ h, cell_of_row _ _ 1 _ _ _ h, cell_of_row _ _ 2 _ _ _ h, cell_of_row _ _ 3 _ _ _ h⟩, frozen_of_row _ _ 0 _ _ h, frozen_of_row _ _ 1 _ _ h, frozen_of_row _ _ 2 _ _ h, frozen_of_row _ _ 3 _ _ h⟩
theorem kset4 {W : World} {r : Nat} (h : W.heap[r]? = some (.cells #[.int .i64 0, .int .i64 0, .int .i64 0, .int .i64 0] 126 (0, 0))) (v0 v1 v2 v3 : Value) :
  (((W.setCell ⟨r, 0, none⟩ v0).setCell ⟨r, 1, none⟩ v1).setCell ⟨r, 2, none⟩ v2).setCell ⟨r, 3, none⟩ v3 = W.setRow r #[v0, v1, v2, v3] := by
 rw [setCell_eq_setRow _ _ 0 _ _ _ _ h, setCell_eq_setRow _ _ 1 _ _ _ _ (setRow_heap _ _ _ _ _ _ h), setRow_again _ _ _ _ _ _ h, setCell_eq_setRow _ _ 2 _ _ _ _ (setRow_heap _ _ _ _ _ _ h), setRow_again _ _ _ _ _ _ h, setCell_eq_setRow _ _ 3 _ _ _ _ (setRow_heap _ _ _ _ _ _ h), setRow_again _ _ _ _ _ _ h]
 rfl
structure PKX (w : World) (nr r4 : Nat) (X : World) : Prop where
 below : Below w.heap.size w X
 res : X.heap[w.heap.size + 1]? = some (.cells #[.int .i64 0, .int .i64 0, .int .i64 0, .int .i64 0] 126 (0, 0))
 row : X.heap[r4]? = some (.cells (kindsA nr) 126 (0, 0))
 le : w.heap.size + 1 < r4
theorem PKX.grown {w : World} {nr r4 : Nat} {X Y : World} {row : Option Nat} (h : PKX w nr r4 X) (o : Obj) (hg : (X.alloc o).grownBy Y row) (hr : ∀ k, row = some k → r4 + 1 ≤ k) : PKX w nr r4 Y := by
 have h4 := (Array.getElem?_eq_some_iff.1 h.row).1
 have hl := h.le
 have hb : ∀ k, k ≤ r4 → Y.heap[k]? = X.heap[k]? := fun k hk => (hg.block k (by rw [World.size_alloc]; omega) (fun e => by have := hr k e.symm; omega)).trans ((box_below X o).block k (by omega))
 exact ⟨h.below.trans ⟨hg.os, hg.tape, hg.output, Nat.le_trans (box_below X o).size hg.size, fun k hk => hb k (by omega)⟩, (hb _ (by omega)).trans h.res, (hb r4 (Nat.le_refl _)).trans h.row, h.le⟩
set_option maxHeartbeats 2000000 in
set_option maxRecDepth 20000 in
theorem pts_some (c : KL) (h8 : c.nr ≤ 8) (w : World) : Calls Tryz.prog 52 #[klV c] w fun e w' => (∃ oa cap, e = .returned (.tuple #[.slice oa (ptsOf c.nr).length cap, .agg (kindsA c.nr)]) ∧ (ptsOf c.nr).length ≤ cap ∧ cap ≤ maxLen ∧ IsInts w.heap.size oa (ptsOf c.nr) w') ∧ Below w.heap.size w w' := by
 have HI := fun X => isCall_any c X
 rw [decide_eq_true (by omega : c.nr < 9)] at HI
 unfold klV klC at HI ⊢
 obtain ⟨V, hV, hVb, hVx, hVh⟩ : ∃ V, V = (w.alloc (.cells #[.int .u32 c.arch, .int .u32 c.nr, .int .u64 c.a0, .int .u64 c.a1, .int .u64 c.a2, .int .u64 c.a3] 52)).alloc (.cells #[.int .i64 0, .int .i64 0, .int .i64 0, .int .i64 0] 126) ∧ Below w.heap.size w V ∧ (∀ j : Nat, V.cell? ⟨w.heap.size, j, none⟩ = (#[.int .u32 c.arch, .int .u32 c.nr, .int .u64 c.a0, .int .u64 c.a1, .int .u64 c.a2, .int .u64 c.a3] : Array Value)[j]?) ∧ V.heap[w.heap.size + 1]? = some (.cells #[.int .i64 0, .int .i64 0, .int .i64 0, .int .i64 0] 126 (0, 0)) := by
  obtain ⟨V, h1, h2, h3, h4⟩ := two_box w #[.int .u32 c.arch, .int .u32 c.nr, .int .u64 c.a0, .int .u64 c.a1, .int .u64 c.a2, .int .u64 c.a3] #[.int .i64 0, .int .i64 0, .int .i64 0, .int .i64 0] 52 126
  refine ⟨V, h1, h2, h3, ?_⟩
  rw [h1]
  have := heap_alloc_new (w.alloc (.cells #[.int .u32 c.arch, .int .u32 c.nr, .int .u64 c.a0, .int .u64 c.a1, .int .u64 c.a2, .int .u64 c.a3] 52)) (.cells #[.int .i64 0, .int .i64 0, .int .i64 0, .int .i64 0] 126)
  rwa [World.size_alloc] at this
 have x0 := hVx 0
 have x1 := hVx 1
 have x2 := hVx 2
 have x3 := hVx 3
 have x4 := hVx 4
 have x5 := hVx 5
 simp only [List.getElem?_toArray, List.getElem?_cons_zero, List.getElem?_cons_succ] at x0 x1 x2 x3 x4 x5
 clear hVx
 obtain ⟨nr, hnr⟩ : ∃ n, n = c.nr := ⟨_, rfl⟩
 have fi := fun W => forms_index32 nr (by omega) W
 have fk := fun W => form_kinds nr W
 have HF := fun W => forms_any W
 obtain ⟨FA, hFA⟩ : ∃ a, a = formsArr := ⟨_, rfl⟩
 obtain ⟨FV, hFV⟩ : ∃ a, a = formV nr := ⟨_, rfl⟩
 rw [← hFA] at fi
 rw [← hFV] at fi fk
 simp only [← hFA] at HF
 unfold kindsV at fk
 rw [← hnr] at HI x1 hV ⊢
 have HK := hide (show ∀ i, i < 4 → (kindsA nr)[i]? = some (.int .i64 (kindAt nr i : Nat)) from fun i h => kindsA_at nr i h)
 obtain ⟨k0, hk0⟩ : ∃ k, k = kindAt nr 0 := ⟨_, rfl⟩
 obtain ⟨k1, hk1⟩ : ∃ k, k = kindAt nr 1 := ⟨_, rfl⟩
 obtain ⟨k2, hk2⟩ : ∃ k, k = kindAt nr 2 := ⟨_, rfl⟩
 obtain ⟨k3, hk3⟩ : ∃ k, k = kindAt nr 3 := ⟨_, rfl⟩
 have HKA := hide (show kindsA nr = #[.int .i64 (k0 : Nat), .int .i64 (k1 : Nat), .int .i64 (k2 : Nat), .int .i64 (k3 : Nat)] by rw [hk0, hk1, hk2, hk3]; rfl)
 rw [← hk0, ← hk1, ← hk2, ← hk3] at fk
 have H8 := hide (show nr ≤ 8 by omega)
 have n1 : (0 : Int) ≤ nr := by omega
 have n2 : (nr : Int) < 9 := by have := H8.out; omega
 clear hFA hFV hk0 hk1 hk2 hk3 hnr h8
 go_enter Tryz.func52, Tryz.ntmps52
 go_wp2_with fail
 rw [← hV]
 clear hV
 refine (HI _).mono ?_
 rintro e X ⟨rfl, hX⟩
 have hXh := (hX.block _ (Array.getElem?_eq_some_iff.1 hVh).1).trans hVh
 have y1 := keep_cell hX x1
 have HB := hide (below_next hVb hX)
 have hXl := (Array.getElem?_eq_some_iff.1 hXh).1
 clear hX hVb hVh x0 x1 x2 x3 x4 x5 HI
 go_wp2_with fail
 have z1 : X.drew.cell? ⟨w.heap.size, 1, none⟩ = some (.int .u32 nr) := y1
 have za : (X.alloc (.cells #[.int .i64 0, .int .i64 0, .int .i64 0, .int .i64 0] 126)).drew.cell? ⟨w.heap.size, 1, none⟩ = some (.int .u32 nr) := keep_cell (box_below X _).drew y1
 have zb : (X.alloc (.cells #[.int .i64 0, .int .i64 0, .int .i64 0, .int .i64 0] 126)).drew.heap[X.heap.size]? = some (.cells #[.int .i64 0, .int .i64 0, .int .i64 0, .int .i64 0] 126 (0, 0)) := heap_alloc_new X _
 go_cut [4] (fun S wc => ∃ r4 : Nat, S = .pointer (some ⟨r4, 0, none⟩) ∧ Hid (PKX w nr r4 wc))
 case first =>
  go_region_law
   (first
    | (go_simp; go_at_call 75; refine (HF _).mono ?_; rintro e Y ⟨rfl, hY⟩; (first | (have u1 := keep_cell hY z1; have u2 := keep_cell (box_below Y (.cells #[.int .i64 0, .int .i64 0, .int .i64 0, .int .i64 0] 126)) u1; have HBY := hide (And.intro (below_next HB.out.drew hY) ((hY.block (w.heap.size + 1) hXl).trans hXh))) | (have u1 := keep_cell hY za; have HBY := hide (below_next (below_next HB.out (box_below X _)).drew hY); have uh := (hY.block X.heap.size (by simp [World.drew])).trans zb; have hr1 := (hY.block (w.heap.size + 1) (by simp only [World.drew]; rw [World.size_alloc]; omega)).trans (((box_below X (.cells #[.int .i64 0, .int .i64 0, .int .i64 0, .int .i64 0] 126)).block _ hXl).trans hXh); obtain ⟨⟨p0, p1, p2, p3⟩, g0, g1, g2, g3⟩ := krow_cells uh)); clear hY))
  all_goals
   go_wp2_with fail
   go_meet
   case rel => first
    | exact ⟨Y.heap.size, rfl, hide ⟨below_next HBY.out.1 (box_below _ _), ((box_below Y _).block _ (Array.getElem?_eq_some_iff.1 HBY.out.2).1).trans HBY.out.2, by rw [HKA.out]; exact heap_alloc_new _ _, (Array.getElem?_eq_some_iff.1 HBY.out.2).1⟩⟩
    | exact ⟨X.heap.size, rfl, hide ⟨by rw [kset4 uh]; exact below_setRow HBY.out (by omega) _, by rw [kset4 uh]; exact (setRow_other _ _ _ _ (by omega)).trans hr1, by rw [kset4 uh, HKA.out]; exact setRow_heap _ _ _ _ _ _ uh, hXl⟩⟩
 case rest =>
  obtain ⟨r4, rfl, HC⟩ := hcut
  obtain ⟨inf, hi0, hz0, hz1, hz2⟩ := info_int
  clear z1 za zb y1 hXh hXl HB fi fk HF
  go_wp2
  go_loopw [5, 16] (fun L I w' => ∃ (i : Nat) (lv : Value), L = lv ∧ I = .int .i64 i ∧ i ≤ 4 ∧ Hid (PKX w nr r4 w') ∧ Hid (w'.ownsRow (r4 + 1) 3 1 lv (ptsTo nr i).length (intsL (ptsTo nr i)))) (fun _ I _ => 4 - (intOf I).toNat)
  case atStart => exact ⟨0, _, rfl, rfl, by omega, HC, hide (World.ownsRow_nil _ _ _ _)⟩
  case round =>
   obtain ⟨i, L, hlv, rfl, hi, HC, HO⟩ := hrel
   replace hlv := hlv.symm
   subst hlv
   by_cases hlt : i < 4
   ·
    have ck : wr.cell? ⟨r4, i, none⟩ = some (.int .i64 (kindAt nr i : Nat)) := (cell_of_row _ _ i _ _ _ HC.out.row).trans (HK.out i hlt)
    have hst := ptsTo_succ nr i
    have hkl := kind_le nr i
    have hln := ptsTo_len nr i
    obtain ⟨k, hk⟩ : ∃ k, k = kindAt nr i := ⟨_, rfl⟩
    rw [← hk] at ck hst hkl
    have i1 : (0 : Int) ≤ i := by omega
    have i2 : (i : Int) < 4 := by omega
    have hrl := (Array.getElem?_eq_some_iff.1 HC.out.row).1
    obtain ⟨m, hm⟩ : ∃ m, m = (ptsTo nr i).length := ⟨_, rfl⟩
    rw [← hm] at HO hln
    clear hk
    by_cases h2 : 2 ≤ k
    ·
     rw [if_pos h2] at hst
     have HST := hide hst
     have HM := hide hm
     clear hst hm
     have key : ∀ (b2 : Bool), ((k : Int) == 2) = b2 → ((k : Int) == 3) = !b2 → True := fun _ _ _ => trivial
     have hb : (((k : Int) == 2) = true) ∨ (((k : Int) == 2) = false ∧ ((k : Int) == 3) = true) := by
      rcases show k = 2 ∨ k = 3 by omega with rfl | rfl
      ·
       exact .inl rfl
      ·
       exact .inr ⟨rfl, rfl⟩
     clear key h2 hkl
     rcases hb with b2 | ⟨b2, b3⟩
     all_goals
      go_wp2_with (refine wpList_append_lies _ (by rfl) _ _ _ (by rfl) (r4 + 1) 3 inf _ 1 8 Tryz.underlying125 hi0 hz0 hz1 hz2 rfl (by omega) L m (intsL (ptsTo nr i)) (by rfl) (HO.out.alloc _) ⟨wr.heap.size, 0, none⟩ 1 1 [.int .i64 i] (by rfl) (by rfl) (World.news_of_block (cs := #[.int .i64 i]) (t := 3) (fr := (0, 0)) (heap_alloc_new wr _)) (by simp [Value.oneCell']) (by omega) (by simp only [maxLen]; omega) (by omega) (by rw [World.size_alloc]; omega) (wr.heap.size + 1) (by simp) ?_; intro g7 cap7 w7 hown7 hgrow7 hat7 hlt7; have HB7 := hide (PKX.grown HC.out _ hgrow7 (fun k hk => (HO.out.lt k hk).1)); have HO7 := hide hown7; clear hown7 hgrow7 hat7 hlt7)
      replace HO7 := hide (show w7.ownsRow (r4 + 1) 3 1 (.slice (some ⟨g7, 0, none⟩) (m + 1) cap7) (ptsTo nr (i + 1)).length (intsL (ptsTo nr (i + 1))) by
       have := HO7.out
       rw [HST.out]
       unfold intsL at this ⊢
       rw [List.length_append, List.length_singleton, List.map_append, ← HM.out]
       exact this)
      go_wp2
      go_round
      case rel => exact ⟨i + 1, _, rfl, by go_num, by omega, HB7, HO7⟩
      case measure => simp [intOf]; omega
    ·
     rw [if_neg h2, List.append_nil] at hst
     have HO2 := hide (show wr.ownsRow (r4 + 1) 3 1 L (ptsTo nr (i + 1)).length (intsL (ptsTo nr (i + 1))) by rw [hst, ← hm]; exact HO.out)
     have b2 : ((k : Int) == 2) = false := by simp; omega
     have b3 : ((k : Int) == 3) = false := by simp; omega
     clear hst hm h2 hkl
     go_wp2
     go_round
     case rel => exact ⟨i + 1, _, rfl, by go_num, by omega, HC, HO2⟩
     case measure => simp [intOf]; omega
   ·
    have hi4 : i = 4 := by omega
    rw [hi4, ptsTo_four H8.out] at HO
    have hge : ¬ (i : Int) < 4 := by omega
    clear hi4 hi hlt
    obtain ⟨oa, cap, hL, q1, q2, q3⟩ := ints_owned HO.out
    subst hL
    have hres := HC.out.res
    have hrow := HC.out.row
    rw [HKA.out] at hrow
    have c0 : wr.cell? ⟨r4, 0, none⟩ = some (.int .i64 (k0 : Nat)) := cell_of_row _ _ 0 _ _ _ hrow
    have c1 : wr.cell? ⟨r4, 1, none⟩ = some (.int .i64 (k1 : Nat)) := cell_of_row _ _ 1 _ _ _ hrow
    have c2 : wr.cell? ⟨r4, 2, none⟩ = some (.int .i64 (k2 : Nat)) := cell_of_row _ _ 2 _ _ _ hrow
    have c3 : wr.cell? ⟨r4, 3, none⟩ = some (.int .i64 (k3 : Nat)) := cell_of_row _ _ 3 _ _ _ hrow
    obtain ⟨⟨p0, p1, p2, p3⟩, g0, g1, g2, g3⟩ := krow_cells hres
    obtain ⟨N, hN⟩ : ∃ N, N = (ptsOf nr).length := ⟨_, rfl⟩
    have HIN := hide q3
    rw [← hN] at q1 ⊢
    have HN := hide hN
    clear hN q3
    go_wp2_with fail
    go_region
    all_goals
     rw [kset4 hres, ← HKA.out]
     go_wp2
     refine bodyPost_ret (v := .tuple #[.slice oa N cap, .agg (kindsA nr)]) (results_pts rfl _ (wr.setRow (w.heap.size + 1) (kindsA nr)).drew (w.heap.size + 1) (kindsA nr) _ rfl rfl rfl (setRow_heap wr _ _ _ _ _ hres)) rfl ⟨⟨oa, cap, by rw [HN.out], by rw [← HN.out]; exact q1, q2, ?_⟩, (below_setRow HC.out.below (by omega) _).drew⟩
     have hown := own_but (r := w.heap.size + 1) (V := (wr.setRow (w.heap.size + 1) (kindsA nr)).drew) HO.out ⟨rfl, rfl, rfl, by show _ ≤ (wr.setRow _ _).heap.size; rw [row_size]; exact Nat.le_refl _, fun k _ hn => row_heap wr _ k _ hn⟩ (by have := HC.out.le; omega)
     obtain ⟨oa', cap', hL', _, _, q3⟩ := ints_owned hown
     simp only [Value.slice.injEq] at hL'
     obtain ⟨rfl, _, rfl⟩ := hL'
     exact q3.weak (by have := HC.out.le; omega)
end Go.Proofs.YtklibmijiecbfaaGreat

/- What a ward asks of memory. -/
namespace Go.Proofs.YtklibmijiecbfaaGreat
open Go.RowKit Mm

theorem PWgrown (B : MB) (m : MS) (k : Nat) : B.W.grownBy (PW B m k) (some B.g) :=
 ⟨rfl, rfl, rfl, by show _ ≤ (B.W.setRow B.g _).heap.size; rw [row_size]; exact Nat.le_refl _, fun j _ hn => row_heap B.W B.g j _ (fun e => hn (by rw [e]))⟩
theorem mem_of {fn : FuncId} {args : Nat → Array Value} {g : Nat} {m m' : MS} {v : Value} {W : World} (hM : IsM g m W) (h : ∀ B : MB, Calls Tryz.prog fn (args B.g) (PW B m 0) fun e w' => e = .returned v ∧ ∃ k', w' = PW B m' k') :
  Calls Tryz.prog fn (args g) W fun e w' => e = .returned v ∧ IsM g m' w' ∧ W.grownBy w' (some g) := by
 have h1 := h ⟨W, g, m, hM⟩
 rw [← PW_of hM] at h1
 refine h1.mono ?_
 rintro e w' ⟨he, k', hw⟩
 subst hw
 exact ⟨he, PW_isM _ _ _, PWgrown ⟨W, g, m, hM⟩ m' k'⟩
theorem mfree_any {g : Nat} {m : MS} {W : World} (hM : IsM g m W) (a : Nat) : Calls Tryz.prog 91 #[.pointer (some ⟨g, 0, none⟩), .int .u64 a] W fun e w' => (∃ v, e = .returned v) ∧ IsM g (freeM m a) w' ∧ W.grownBy w' (some g) := by
 unfold freeM
 by_cases h : 8 ≤ a / 64 ∧ a / 64 < 12 ∧ a % 64 = 0 ∧ m.rd (a / 64) = true
 ·
  rw [if_pos h]
  have h1 := mem_of (args := fun g => #[.pointer (some ⟨g, 0, none⟩), .int .u64 ((a / 64 * 64 : Nat) : Int)]) hM fun B => free_ok B m 0 (a / 64) h.1 h.2.1 h.2.2.2
  rw [show a / 64 * 64 = a by omega] at h1
  exact h1.mono fun e w' ⟨he, h2⟩ => ⟨⟨_, he⟩, h2⟩
 ·
  rw [if_neg h]
  have h1 := mem_of (args := fun g => #[.pointer (some ⟨g, 0, none⟩), .int .u64 (a : Int)]) hM fun B => free_none B m 0 a fun n h8 h12 hr he => h ⟨by omega, by omega, by omega, by rw [show a / 64 = n by omega]; exact hr⟩
  exact h1.mono fun e w' ⟨he, h2⟩ => ⟨⟨_, he⟩, h2⟩
theorem mmap_any {g : Nat} {m : MS} {W : World} (hM : IsM g m W) (n : Int) (b : Bool) : Calls Tryz.prog 25 #[.pointer (some ⟨g, 0, none⟩), .int .i64 n, .bool b] W fun e w' => e = .returned (errV (mapW n b m).2) ∧ IsM g (mapW n b m).1 w' ∧ W.grownBy w' (some g) := by
 unfold mapW
 by_cases h : 0 ≤ n ∧ n < 8
 ·
  rw [if_pos h]
  have h1 := mem_of (args := fun g => #[.pointer (some ⟨g, 0, none⟩), .int .i64 ((n.toNat : Nat) : Int), .bool b]) hM fun B => map_ok B m 0 n.toNat (by omega) b
  rw [Int.toNat_of_nonneg h.1] at h1
  exact h1
 ·
  rw [if_neg h]
  exact mem_of (args := fun g => #[.pointer (some ⟨g, 0, none⟩), .int .i64 n, .bool b]) hM fun B => (map_bad B m 0 n h b).mono fun e w' ⟨he, hw⟩ => ⟨he, 0, hw⟩
theorem munmap_any {g : Nat} {m : MS} {W : World} (hM : IsM g m W) (n : Int) : Calls Tryz.prog 63 #[.pointer (some ⟨g, 0, none⟩), .int .i64 n] W fun e w' => e = .returned (errV (unmapW n m).2) ∧ IsM g (unmapW n m).1 w' ∧ W.grownBy w' (some g) := by
 unfold unmapW
 by_cases h : 0 ≤ n ∧ n < 8
 ·
  cases hr : m.rd n.toNat with
  | true =>
   rw [if_pos ⟨h.1, h.2, rfl⟩]
   have h1 := mem_of (args := fun g => #[.pointer (some ⟨g, 0, none⟩), .int .i64 ((n.toNat : Nat) : Int)]) hM fun B => unmap_ok B m 0 n.toNat (by omega) hr
   rw [Int.toNat_of_nonneg h.1] at h1
   exact h1
  | false =>
   rw [if_neg (fun h => by cases h.2.2)]
   have h1 := mem_of (args := fun g => #[.pointer (some ⟨g, 0, none⟩), .int .i64 ((n.toNat : Nat) : Int)]) hM fun B => unmap_no B m 0 n.toNat (by omega) hr
   rw [Int.toNat_of_nonneg h.1] at h1
   exact h1
 ·
  rw [if_neg (fun h' => h ⟨h'.1, h'.2.1⟩)]
  exact mem_of (args := fun g => #[.pointer (some ⟨g, 0, none⟩), .int .i64 n]) hM fun B => unmap_bad B m 0 n h
theorem mput_any {g : Nat} {m : MS} {W : World} (hM : IsM g m W) (a : Nat) (s : ByteArray) (ha : a < 18446744073709551616) (hs : s.size ≤ 1000) : Calls Tryz.prog 64 #[.pointer (some ⟨g, 0, none⟩), .int .u64 a, .string s] W fun e w' => e = .returned (errV (putW a s m).2) ∧ IsM g (putW a s m).1 w' ∧ W.grownBy w' (some g) := by
 unfold putW
 by_cases h : ∀ i, i < s.size → goodM m (addrI a i)
 ·
  rw [if_pos h]
  exact mem_of (args := fun g => #[.pointer (some ⟨g, 0, none⟩), .int .u64 a, .string s]) hM fun B => put_ok B m 0 a s ha (by omega) h
 ·
  rw [if_neg h]
  exact mem_of (args := fun g => #[.pointer (some ⟨g, 0, none⟩), .int .u64 a, .string s]) hM fun B => put_bad B m 0 a s (by omega) (by
   apply Classical.byContradiction
   intro hc
   exact h fun i hi => Classical.byContradiction fun hg => hc ⟨i, hi, hg⟩)
theorem mseal_ok {g : Nat} {m : MS} {W : World} (hM : IsM g m W) {q : Nat} (hq : freeQ m = some q) (s : ByteArray) (hs : s.size ≤ 64) : Calls Tryz.prog 88 #[.pointer (some ⟨g, 0, none⟩), .string s] W fun e w' => e = .returned (.tuple #[.int .u64 ((q * 64 : Nat) : Int), .nilIface]) ∧ IsM g (sealM m q s.data.toList) w' ∧ W.grownBy w' (some g) := by
 obtain ⟨h1, h2, h3, h4⟩ := freeQ_some hq
 exact mem_of (args := fun g => #[.pointer (some ⟨g, 0, none⟩), .string s]) hM fun B => seal_ok B m 0 q s hs h1 h2 h4 h3
theorem mseal_full {g : Nat} {m : MS} {W : World} (hM : IsM g m W) (hq : freeQ m = none) (s : ByteArray) (hs : s.size ≤ 64) : Calls Tryz.prog 88 #[.pointer (some ⟨g, 0, none⟩), .string s] W fun e w' => e = .returned (.tuple #[.int .u64 0, .iface 82 (.int .i64 9)]) ∧ IsM g m w' ∧ W.grownBy w' (some g) :=
 mem_of (args := fun g => #[.pointer (some ⟨g, 0, none⟩), .string s]) hM fun B => seal_full B m 0 s hs (freeQ_none hq)
end Go.Proofs.YtklibmijiecbfaaGreat

/- A thread stored whole. -/
namespace Go.Proofs.YtklibmijiecbfaaGreat
open Go.RowKit Mm

def zThread : Array Value := #[.int .i64 0, .int .u32 0, .int .u32 0, .int .u64 0, .int .u64 0, .int .u64 0, .int .u64 0, .int .u64 0, .int .u64 0, .int .u64 0, .int .u64 0, .bool false, .bool false, .bool false, .bool false, .int .i64 0, .string ⟨#[]⟩, .string ⟨#[]⟩, .int .u32 0, .int .i64 0, .string ⟨#[]⟩, .int .u32 0, .int .i64 0, .string ⟨#[]⟩, .int .u32 0, .int .i64 0, .string ⟨#[]⟩, .int .u32 0, .int .i64 0]
theorem zThread_at : ∀ j, j < 29 → zThread.toList.getD j undef = cellT (idleT 0) j := by
 intro j hj
 match j, hj with
 | 0, _ => rfl
 | 1, _ => rfl
 | 2, _ => rfl
 | 3, _ => rfl
 | 4, _ => rfl
 | 5, _ => rfl
 | 6, _ => rfl
 | 7, _ => rfl
 | 8, _ => rfl
 | 9, _ => rfl
 | 10, _ => rfl
 | 11, _ => rfl
 | 12, _ => rfl
 | 13, _ => rfl
 | 14, _ => rfl
 | 15, _ => rfl
 | 16, _ => rfl
 | 17, _ => rfl
 | 18, _ => rfl
 | 19, _ => rfl
 | 20, _ => rfl
 | 21, _ => rfl
 | 22, _ => rfl
 | 23, _ => rfl
 | 24, _ => rfl
 | 25, _ => rfl
 | 26, _ => rfl
 | 27, _ => rfl
 | 28, _ => rfl
 | j + 29, hj => omega
theorem zThread_one : zThread.all (·.oneCell') = true := by simp [zThread, Value.oneCell']
def ovr (f : Nat → Value) (o : Nat) (l : List Value) : Nat → Value := fun i => if o ≤ i ∧ i < o + l.length then l.getD (i - o) undef else f i
theorem setCells_VA (g : Nat) (ty : TypeId) : ∀ (l : List Value) (o : Nat) (f : Nat → Value) (W : World), W.heap[g]? = some (.cells (VA 92 f) ty (0, 0)) → W.setCells g o l = W.setRow g (VA 92 (ovr f o l))
 | [], o, f, W, h => by
  rw [show ovr f o [] = f by funext i; unfold ovr; rw [if_neg (by simp only [List.length_nil]; omega)]]
  exact (setRow_self W g _ _ _ h).symm
 | x :: r, o, f, W, h => by
  rw [World.setCells, setCell_eq_setRow _ _ _ _ _ _ _ h, VA_set, setCells_VA g ty r (o + 1) (updV f o x) _ (setRow_heap _ _ _ _ _ _ h), setRow_again _ _ _ _ _ _ h]
  congr 2
  funext i
  unfold ovr updV
  by_cases h1 : i = o
  ·
   subst h1
   rw [if_neg (by omega), if_pos rfl, if_pos (by simp), Nat.sub_self]
   rfl
  ·
   by_cases h2 : o + 1 ≤ i ∧ i < o + 1 + r.length
   ·
    rw [if_pos h2, if_pos (by rw [List.length_cons]; omega), show i - o = (i - (o + 1)) + 1 by omega, List.getD_cons_succ]
   ·
    rw [if_neg h2, if_neg h1, if_neg (by rw [List.length_cons]; omega)]
theorem setCells_other (g r : Nat) (hne : r ≠ g) : ∀ (l : List Value) (o : Nat) (W : World), (W.setCells g o l).heap[r]? = W.heap[r]?
 | [], _, _ => rfl
 | x :: l, o, W => by
  rw [World.setCells, setCells_other g r hne l (o + 1)]
  exact Below.heap_setCell W ⟨g, o, none⟩ x r hne
theorem setCells_size (g : Nat) : ∀ (l : List Value) (o : Nat) (W : World), (W.setCells g o l).heap.size = W.heap.size ∧ (W.setCells g o l).os = W.os ∧ (W.setCells g o l).tape = W.tape ∧ (W.setCells g o l).output = W.output
 | [], _, _ => ⟨rfl, rfl, rfl, rfl⟩
 | x :: l, o, W => by
  rw [World.setCells]
  obtain ⟨h1, h2, h3, h4⟩ := setCells_size g l (o + 1) (W.setCell ⟨g, o, none⟩ x)
  exact ⟨h1.trans (by simp [World.setCell]), h2, h3, h4⟩
theorem Fr.cells {g gm : Nat} (lv : Value) (W : World) (o : Nat) (l : List Value) : Fr g gm lv lv W (W.setCells g o l) := by
 obtain ⟨h1, h2, h3, h4⟩ := setCells_size g l o W
 exact ⟨h2, h3, h4, by rw [h1]; exact Nat.le_refl _, fun k _ hk _ _ => setCells_other g k hk l o W, fun _ h => .inl h⟩
theorem WX.setTh {g gm : Nat} {P : PV} {s : WS} {lv : Value} {W : World} (h : WX g gm P s lv W) (n : Nat) (hn : n < 3) (c : Array Value) (hc : c.toList.length = 29) (t : TH) (ht : ∀ j, j < 29 → c.toList.getD j undef = cellT t j) : WX g gm P (s.put n t) lv (W.setCells g (4 + n * 29) c.toList) := by
 rw [setCells_VA g 79 c.toList (4 + n * 29) _ W h.row]
 refine h.rows _ (updW_T P gm s.T lv n hn t _ (fun j hj => ?_) fun i hi => ?_)
 ·
  unfold ovr
  rw [if_pos (by rw [hc]; omega), show 4 + n * 29 + j - (4 + n * 29) = j by omega]
  exact ht j hj
 ·
  unfold ovr
  rw [if_neg]
  rw [hc]
  intro hh
  exact hi (i - (4 + n * 29)) (by omega) (by omega)
theorem put_put (s : WS) (n : Nat) (t u : TH) : (s.put n t).put n u = s.put n u := by unfold WS.put; simp only [updF_again]
theorem wpAny_two {P : Program} {md : Region.Mode} {ops : Array Oper} {Q : Exit → Act → World → Prop} {fuel : Nat} {listed : Array Bool} {a : Act} {w : World} {i j : Nat} {o p : Oper} (hr : Region.ready md ops listed = [i, j]) (ho : ops.toList[i]? = some o) (hg : o.guard = none) (hp : ops.toList[j]? = some p) (hgp : p.guard = none)
  (h : ∀ K : Act → World → Prop, (∀ a w, wpAny P md ops Q fuel (listed.setIfInBounds i true) a w → K a w) → Oper.wp P o a w K Q)
  (h2 : ∀ K : Act → World → Prop, (∀ a w, wpAny P md ops Q fuel (listed.setIfInBounds j true) a w → K a w) → Oper.wp P p a w K Q) : wpAny P md ops Q (fuel + 1) listed a w := by
 refine wpAny_ready hr (by simp) ?_
 refine AllReady.cons (o := o) (by simpa using ho) (fun K hK => ?_) (AllReady.cons (o := p) (by simpa using hp) (fun K hK => ?_) AllReady.nil)
 ·
  have hw : Region.wanted o (yielded ops a.tmps) = true := by simp [Region.wanted, hg]
  rw [if_pos hw]
  exact h K hK
 ·
  have hw : Region.wanted p (yielded ops a.tmps) = true := by simp [Region.wanted, hgp]
  rw [if_pos hw]
  exact h2 K hK
end Go.Proofs.YtklibmijiecbfaaGreat

/- A call ends: end, refuse, fail, do. -/
namespace Go.Proofs.YtklibmijiecbfaaGreat
open Go.RowKit Mm

theorem info_entry : ∃ i, Tryz.prog.info? 70 = some i ∧ i.zero = some (.agg (entA 0 0 zeroKL zeroVS 0)) ∧ i.size = 21 ∧ i.bytes = 192 := by
 have hz : (Tryz.prog.info? 70).map (·.zero) = some (some (.agg (entA 0 0 zeroKL zeroVS 0))) := by kernel_rfl
 have hs : (Tryz.prog.info? 70).map (·.size) = some 21 := by kernel_rfl
 have hb : (Tryz.prog.info? 70).map (·.bytes) = some 192 := by kernel_rfl
 cases hq : Tryz.prog.info? 70 with
 | none => rw [hq] at hs; simp at hs
 | some i =>
  rw [hq] at hz hs hb
  simp at hz hs hb
  exact ⟨i, rfl, hz, hs, hb⟩
theorem size_thread : (Tryz.prog.info? 76).map (·.size) = some 29 := by kernel_rfl
structure EX (g gm : Nat) (P : PV) (s : WS) (lv : Value) (r2 : Nat) (c : Array Value) (X : World) : Prop where
 ward : WX g gm P s lv X
 box : X.heap[r2]? = some (.cells c 70 (0, 0))
 ne : r2 ≠ g ∧ r2 ≠ gm ∧ lv.ownBlock ≠ some r2
 bd : P.bd ≤ r2
theorem EX.on {g gm : Nat} {P : PV} {s : WS} {lv : Value} {r2 : Nat} {c : Array Value} {X Y : World} (h : EX g gm P s lv r2 c X) (hb : Below X.heap.size X Y) : EX g gm P s lv r2 c Y := ⟨h.ward.on hb, (hb.block _ (Array.getElem?_eq_some_iff.1 h.box).1).trans h.box, h.ne, h.bd⟩
theorem EX.memo {g gm : Nat} {P : PV} {s : WS} {lv : Value} {r2 : Nat} {c : Array Value} {X Y : World} (h : EX g gm P s lv r2 c X) {m : MS} (hm : IsM gm m Y) (hg : X.grownBy Y (some gm)) : EX g gm P { s with mem := m } lv r2 c Y :=
 ⟨h.ward.memo hm hg, (hg.block _ (Array.getElem?_eq_some_iff.1 h.box).1 (fun e => h.ne.2.1 (Option.some.inj e))).trans h.box, h.ne, h.bd⟩

theorem EX.setBox {g gm : Nat} {P : PV} {s : WS} {lv : Value} {r2 : Nat} {c : Array Value} {X : World} (h : EX g gm P s lv r2 c X) (c' : Array Value) : EX g gm P s lv r2 c' (X.setRow r2 c') :=
 ⟨h.ward.other (setRow_grown X r2 c') h.ne.1 h.ne.2.1 h.ne.2.2 h.bd, setRow_heap _ _ _ _ _ _ h.box, h.ne, h.bd⟩
theorem Fr.other {g gm : Nat} {lv : Value} {W X : World} (h : Fr g gm lv lv W X) {r : Nat} (c : Array Value) (hr : W.heap.size ≤ r) : Fr g gm lv lv W (X.setRow r c) :=
 ⟨h.os, h.tape, h.output, by rw [row_size]; exact h.size, fun k hk h1 h2 h3 => (row_heap X r k c (by omega)).trans (h.block k hk h1 h2 h3), h.new⟩
theorem Fr.logs {g gm : Nat} {P : PV} {s : WS} {lv : Value} {X w2 : World} {o : Obj} {gg n cap : Nat} (_h : WX g gm P s lv X) (v : Value) (hg : (X.alloc o).grownBy w2 lv.ownBlock) (hat : lv.ownBlock = some gg ∨ gg = X.heap.size + 1) : Fr g gm lv (.slice (some ⟨gg, 0, none⟩) n cap) X (w2.setCell ⟨g, 91, none⟩ v) :=
 ⟨hg.os, hg.tape, hg.output, Nat.le_trans (Nat.le_trans (box_below X o).size hg.size) (But.set g 91 w2 v).size, fun k hk h1 h2 h3 => ((Below.heap_setCell w2 ⟨g, 91, none⟩ v k h1).trans (hg.block k (by rw [World.size_alloc]; omega) (fun e => h3 e.symm))).trans ((box_below X o).block k hk), fun k hk => by
  simp only [Value.ownBlock, Option.some.injEq] at hk
  subst hk
  rcases hat with h | h
  ·
   exact .inl h
  ·
   exact .inr (by omega)⟩
theorem ent_one (kind thr : Int) (k : KL) (v : VS) (errno : Int) : ∀ u ∈ (entA kind thr k v errno).toList, u.oneCell' = true := by
 intro u hu
 simp only [entA, List.mem_cons, List.not_mem_nil, or_false] at hu
 rcases hu with rfl | rfl | rfl | rfl | rfl | rfl | rfl | rfl | rfl | rfl | rfl | rfl | rfl | rfl | rfl | rfl | rfl | rfl | rfl | rfl | rfl <;> rfl
theorem size_entry : (Tryz.prog.info? 70).map (·.size) = some 21 := by kernel_rfl
theorem ent_set7 {W : World} {r : Nat} {kind errno : Int} {v : VS} (n : Int) (k : KL) (h : W.heap[r]? = some (.cells (entA kind 0 zeroKL v errno) 70 (0, 0))) :
  ((((((W.setCell ⟨r, 1, none⟩ (.int .i64 n)).setCell ⟨r, 2, none⟩ (.int .u32 k.arch)).setCell ⟨r, 3, none⟩ (.int .u32 k.nr)).setCell ⟨r, 4, none⟩ (.int .u64 k.a0)).setCell ⟨r, 5, none⟩ (.int .u64 k.a1)).setCell ⟨r, 6, none⟩ (.int .u64 k.a2)).setCell ⟨r, 7, none⟩ (.int .u64 k.a3) = W.setRow r (entA kind n k v errno) := by
 rw [setCell_eq_setRow _ _ 1 _ _ _ _ h, setCell_eq_setRow _ _ 2 _ _ _ _ (setRow_heap _ _ _ _ _ _ h), setRow_again _ _ _ _ _ _ h, setCell_eq_setRow _ _ 3 _ _ _ _ (setRow_heap _ _ _ _ _ _ h), setRow_again _ _ _ _ _ _ h, setCell_eq_setRow _ _ 4 _ _ _ _ (setRow_heap _ _ _ _ _ _ h), setRow_again _ _ _ _ _ _ h,
  setCell_eq_setRow _ _ 5 _ _ _ _ (setRow_heap _ _ _ _ _ _ h), setRow_again _ _ _ _ _ _ h, setCell_eq_setRow _ _ 6 _ _ _ _ (setRow_heap _ _ _ _ _ _ h), setRow_again _ _ _ _ _ _ h, setCell_eq_setRow _ _ 7 _ _ _ _ (setRow_heap _ _ _ _ _ _ h), setRow_again _ _ _ _ _ _ h]
 simp only [entA, LT1, LT2, LT3]
theorem build_entry (kind thr : Int) (k : KL) (v : VS) (errno : Int) (w : World) : (Instr.buildSlice 63 1 #[(0, .agg (entA kind thr k v errno))]).run Tryz.prog w = .ok (.slice (some ⟨w.heap.size, 0, none⟩) 1 1) (w.alloc (.cells (entA kind thr k v errno) 70)) := by
 obtain ⟨inf, hi0, hz0, hz1, hz2⟩ := info_entry
 exact run_buildSlice w 63 70 1 _ _ inf _ Tryz.underlying63 hi0 hz0 (by rw [hz1]; decide) (by rw [hz1]; decide) (by rw [hz1]; kernel_rfl)
theorem wp_buildEntry {o : Oper} {a : Act} {w : World} {K : Act → World → Prop} {Q : Exit → Act → World → Prop} (x : Tmp) {c : Array Value} (ho : o.op = .buildSlice 63 1 #[(0, .tmp x)]) (hx : a.eval (.tmp x) = .agg c)
  (hb : ∀ W, (Instr.buildSlice 63 1 #[(0, .agg c)]).run Tryz.prog W = .ok (.slice (some ⟨W.heap.size, 0, none⟩) 1 1) (W.alloc (.cells c 70)))
  (h : K (a.put o.dst (.slice (some ⟨w.heap.size, 0, none⟩) 1 1)) (w.alloc (.cells c 70))) : o.wp Tryz.prog a w K Q := by
 have hp : (#[(0, Operand.tmp x)] : Array (Nat × Operand)).map (fun (i, x) => (i, a.eval x)) = #[(0, .agg c)] := by simp [hx]
 unfold Oper.wp execOp
 simp only [ho, Sem.run_bind, hp, hb, Result.andThen_ok]
 exact h
set_option maxHeartbeats 4000000 in
set_option maxRecDepth 100000 in
theorem wend_any {g gm : Nat} {P : PV} {s : WS} {lv : Value} {W : World} (n : Nat) (hn : n < 3) (kind : Nat) (errno : Int) (v : VS) (h : WX g gm P s lv W) (hlog : s.log.length ≤ 1000000) :
  Calls Tryz.prog 62 #[.pointer (some ⟨g, 0, none⟩), .int .i64 n, .agg (entA kind 0 zeroKL v errno)] W fun e w' => e = .returned (.tuple #[]) ∧ ∃ lv', WX g gm P (endS n kind errno v s) lv' w' ∧ Fr g gm lv lv' W w' := by
 have hgl := h.glt
 have hml := h.mlt
 have hll : ∀ k, lv.ownBlock = some k → k < W.heap.size := fun k hk => (h.own.lt k hk).2
 obtain ⟨t, ht⟩ : ∃ t, t = s.T n := ⟨_, rfl⟩
 obtain ⟨c0, hc0⟩ : ∃ c, c = entA kind 0 zeroKL v errno := ⟨_, rfl⟩
 obtain ⟨c1, hc1⟩ : ∃ c, c = entA kind n t.call v errno := ⟨_, rfl⟩
 have HE := hide (show EX g gm P s lv W.heap.size c0 (W.alloc (.cells c0 70)) from ⟨h.on (box_below _ _), heap_alloc_new _ _, ⟨by omega, by omega, fun e => by have := hll _ e; omega⟩, h.bd⟩)
 have HFr0 := hide (show Fr g gm lv lv W (W.alloc (.cells c0 70)) from Fr.of lv (box_below _ _))
 obtain ⟨r2, hr2⟩ : ∃ r, r = W.heap.size := ⟨_, rfl⟩
 have HT := hide ht
 have HC0 := hide hc0
 have HC1 := hide hc1
 have HBS := fun W => build_entry kind n t.call v errno W
 rw [← hc1] at HBS
 rw [← hc0]
 have HH := hide h
 have j1 : (0 : Int) ≤ n := by omega
 have j2 : (n : Int) < 3 := by omega
 clear h ht hll hgl hml hc0 hc1
 go_enter Tryz.func62, Tryz.ntmps62
 go_wp2
 rw [← hr2] at HE ⊢
 have HR2 := hide hr2
 clear hr2
 go_loopw [13] (fun I w' => ∃ i : Nat, i ≤ 4 ∧ I = .int .i64 i ∧ Hid (EX g gm P { s with mem := freeT t s.mem i } lv r2 c0 w') ∧ Hid (Fr g gm lv lv W w')) (fun I _ => 4 - (intOf I).toNat)
 case atStart => exact ⟨0, by omega, rfl, HE, HFr0⟩
 case round =>
  obtain ⟨i, hi, rfl, HC, HF⟩ := hrel
  clear HE HFr0
  by_cases hlt : i < 4
  ·
   have cs : wr.cell? ⟨g, 4 + n * 29 + 11 + i, none⟩ = some (.bool (t.sld i)) := by
    have := HC.out.ward.th n (11 + i) hn (by omega)
    rw [cellT_sld _ _ hlt] at this
    rw [HT.out, Nat.add_assoc]
    exact this
   have ca : wr.cell? ⟨g, 4 + n * 29 + 7 + i, none⟩ = some (.int .u64 (t.args i)) := by
    have := HC.out.ward.th n (7 + i) hn (by omega)
    rw [cellT_arg _ _ hlt] at this
    rw [HT.out, Nat.add_assoc]
    exact this
   have cp := HC.out.ward.ptr
   have k1 : (0 : Int) ≤ i := by omega
   have k2 : (i : Int) < 4 := by omega
   have hst : freeT t s.mem (i + 1) = if t.sld i = true then freeM (freeT t s.mem i) (t.args i) else freeT t s.mem i := rfl
   obtain ⟨a, ha⟩ : ∃ a, a = t.args i := ⟨_, rfl⟩
   rw [← ha] at ca hst
   cases hs : t.sld i with
   | true =>
    rw [hs] at cs hst
    rw [if_pos rfl] at hst
    have HST := hide hst
    replace HC := hide (HC.out.on (Below.refl _ wr).drew)
    replace HF := hide (HF.out.trans (Fr.of lv (Below.refl _ wr).drew))
    have HM := fun X (h : IsM gm (freeT t s.mem i) X) => mfree_any h a
    clear hst hs ha
    go_wp2_with fail
    go_region_law
     (first
      | (go_simp; go_at_call 91; refine (HM _ HC.out.ward.mem).mono ?_; rintro e w1 ⟨⟨v1, rfl⟩, hm1, hg1⟩; have HD := hide (HC.out.memo hm1 hg1); have HG := hide (HF.out.trans (Fr.grown lv hg1 (.inr rfl))); clear hm1 hg1))
    all_goals
     rw [← HST.out] at HD
     go_wp2
     go_round
     case rel => first | exact ⟨i + 1, by omega, by go_num, HD, HG⟩ | exact ⟨i + 1, by omega, by omega, HD⟩ | exact ⟨i + 1, by omega, by omega, HD, HG⟩
     case measure => simp [intOf]; omega
   | false =>
    rw [hs] at cs hst
    rw [if_neg (by decide)] at hst
    rw [← hst] at HC
    clear hst hs ha
    go_wp2
    go_round
    case rel => exact ⟨i + 1, by omega, by go_num, HC, HF⟩
    case measure => simp [intOf]; omega
  ·
   have hi4 : i = 4 := by omega
   rw [hi4] at HC
   have hge : ¬ (i : Int) < 4 := by omega
   clear hi4 hi hlt
   obtain ⟨s1, hs1⟩ : ∃ s1 : WS, s1 = { s with mem := freeT t s.mem 4 } := ⟨_, rfl⟩
   rw [← hs1] at HC
   have HS1 := hide hs1
   have hT1 : s1.T n = t := by rw [hs1, HT.out]
   have hL1 : s1.log = s.log := by rw [hs1]
   clear hs1
   have x1 := HC.out.ward.th n 1 hn (by omega)
   have x2 := HC.out.ward.th n 2 hn (by omega)
   have x3 := HC.out.ward.th n 3 hn (by omega)
   have x4 := HC.out.ward.th n 4 hn (by omega)
   have x5 := HC.out.ward.th n 5 hn (by omega)
   have x6 := HC.out.ward.th n 6 hn (by omega)
   rw [hT1] at x1 x2 x3 x4 x5 x6
   rw [(cellT_call t).1] at x1
   rw [(cellT_call t).2.1] at x2
   rw [(cellT_call t).2.2.1] at x3
   rw [(cellT_call t).2.2.2.1] at x4
   rw [(cellT_call t).2.2.2.2.1] at x5
   rw [(cellT_call t).2.2.2.2.2] at x6
   have hbox := HC.out.box
   rw [HC0.out] at hbox
   have b1 : wr.cell? ⟨r2, 1, none⟩ = some (.int .i64 0) := cell_of_row _ _ 1 _ _ _ hbox
   have b2 : wr.cell? ⟨r2, 2, none⟩ = some (.int .u32 0) := cell_of_row _ _ 2 _ _ _ hbox
   have b3 : wr.cell? ⟨r2, 3, none⟩ = some (.int .u32 0) := cell_of_row _ _ 3 _ _ _ hbox
   have b4 : wr.cell? ⟨r2, 4, none⟩ = some (.int .u64 0) := cell_of_row _ _ 4 _ _ _ hbox
   have b5 : wr.cell? ⟨r2, 5, none⟩ = some (.int .u64 0) := cell_of_row _ _ 5 _ _ _ hbox
   have b6 : wr.cell? ⟨r2, 6, none⟩ = some (.int .u64 0) := cell_of_row _ _ 6 _ _ _ hbox
   have b7 : wr.cell? ⟨r2, 7, none⟩ = some (.int .u64 0) := cell_of_row _ _ 7 _ _ _ hbox
   have f1 := frozen_of_row wr r2 1 _ _ hbox
   have f2 := frozen_of_row wr r2 2 _ _ hbox
   have f3 := frozen_of_row wr r2 3 _ _ hbox
   have f4 := frozen_of_row wr r2 4 _ _ hbox
   have f5 := frozen_of_row wr r2 5 _ _ hbox
   have f6 := frozen_of_row wr r2 6 _ _ hbox
   have f7 := frozen_of_row wr r2 7 _ _ hbox
   have hne : r2 ≠ g := HC.out.ne.1
   have hne2 : ¬ g = r2 := fun e => hne e.symm
   have hot : ∀ j, (wr.setCell ⟨r2, 1, none⟩ (.int .i64 n)).cell? ⟨g, j, none⟩ = wr.cell? ⟨g, j, none⟩ := fun j => cell_heap (Below.heap_setCell wr ⟨r2, 1, none⟩ _ g hne2) j
   have y1 := (hot (4 + n * 29 + 1)).trans x1
   have y2 := (hot (4 + n * 29 + 2)).trans x2
   have y3 := (hot (4 + n * 29 + 3)).trans x3
   have y4 := (hot (4 + n * 29 + 4)).trans x4
   have y5 := (hot (4 + n * 29 + 5)).trans x5
   have y6 := (hot (4 + n * 29 + 6)).trans x6
   have HSE := hide (ent_set7 n t.call hbox)
   have HX1 := hide (HC.out.setBox c1)
   have HF1 := hide (HF.out.other c1 (by rw [← HR2.out]; exact Nat.le_refl r2))
   clear hot hbox
   go_wp2_with fail
   go_region
   rw [HSE.out, ← HC1.out]
   clear x1 x2 x3 x4 x5 x6 y1 y2 y3 y4 y5 y6 b1 b2 b3 b4 b5 b6 b7 f1 f2 f3 f4 f5 f6 f7 hne hne2 HC HF HSE
   go_wp2_with fail
   refine wp_forget (fun X => Hid (EX g gm P s1 lv r2 c1 X) ∧ Hid (Fr g gm lv lv W X)) ⟨hide (HX1.out.on (Below.refl _ _).drew), hide (HF1.out.trans (Fr.of lv (Below.refl _ _).drew))⟩ ?_
   clear HX1 HF1
   rintro X ⟨HC, HF⟩
   have hs21 : c1.size = 21 := by rw [HC1.out]; rfl
   have HON := hide (show ∀ u ∈ c1.toList, u.oneCell' = true by rw [HC1.out]; exact ent_one _ _ _ _ _)
   have HSZ := hide (show c1.toList.length = 1 * 21 by rw [Array.length_toList, hs21])
   have hl2 : (loadVar 70 ⟨r2, 0, none⟩).run Tryz.prog X.drew = .ok (.agg c1) X.drew := run_loadVar_row (P := Tryz.prog) X.drew r2 70 70 c1 (0, 0) _ HC.out.box Tryz.underlying70 rfl (by rw [hs21]; exact size_entry)
   have hl1 : (Instr.loadAt 70 (.pointer (some ⟨r2, 0, none⟩))).run Tryz.prog X.drew = .ok (.agg c1) X.drew := by
    simp only [Instr.loadAt, Instr.sureAddr, Sem.run_bind, Sem.run_pure, Result.andThen_ok, hl2]
   have cl0 : X.cell? ⟨g, 91, none⟩ = some lv := HC.out.ward.logc
   have cl : X.drew.cell? ⟨g, 91, none⟩ = some lv := cl0
   have cl2 := keep_cell (box_below X (.cells c1 70)) cl0
   have cl3 : (X.alloc (.cells c1 70)).drew.cell? ⟨g, 91, none⟩ = some lv := cl2
   obtain ⟨inf, hi0, hz0, hz1, hz2⟩ := info_entry
   obtain ⟨L, hL⟩ : ∃ L, L = s1.log.length := ⟨_, rfl⟩
   have hLl : L ≤ 1000000 := by rw [hL, hL1]; exact hlog
   have HL := hide hL
   have HOW := hide (show X.ownsRow 0 70 21 lv L (flatE s1.log) by rw [hL]; exact HC.out.ward.own)
   have hgX : g < X.heap.size := HC.out.ward.glt
   have hbX : X.drew.heap[r2]? = some (.cells c1 70 (0, 0)) := HC.out.box
   have HOA := hide (show (X.alloc (.cells c1 70)).drew.ownsRow 0 70 21 lv L (flatE s1.log) from HOW.out.alloc _)
   have HNB := hide (show (X.alloc (.cells c1 70)).drew.heap[X.heap.size]? = some (.cells c1 70 (0, 0)) from heap_alloc_new X _)
   clear hL
   have hbA : (X.alloc (.cells c1 70)).drew.heap[r2]? = some (.cells c1 70 (0, 0)) := ((box_below X (.cells c1 70)).block r2 (Array.getElem?_eq_some_iff.1 HC.out.box).1).trans HC.out.box
   refine wp_region_any (by kernel_rfl) ?_
   change wpAny _ _ _ _ _ _ _ (World.drew _)
   refine Gl.wpAny_takeOf 0 (some 41) (.pointer (some ⟨g, 0, none⟩)) rfl rfl (by kernel_rfl) (by kernel_rfl) (by kernel_rfl) (fun _ _ _ h => h) (Or.inl ⟨by rfl, ?_⟩) ?_
   ·
    intro wx
    go_simp
   try simp only [Act.put, LT1, LT2, LT3]
   refine Gl.wpAny_takeOf 1 (some 42) (.pointer (some ⟨g, 0, none⟩)) rfl rfl (by kernel_rfl) (by kernel_rfl) (by kernel_rfl) (fun _ _ _ h => h) (Or.inl ⟨by rfl, ?_⟩) ?_
   ·
    intro wx
    go_simp
   try simp only [Act.put, LT1, LT2, LT3]
   refine Gl.wpAny_takeOf 2 (some 43) (.pointer (some ⟨g, 0, none⟩)) rfl rfl (by kernel_rfl) (by kernel_rfl) (by kernel_rfl) (fun _ _ _ h => h) (Or.inl ⟨by rfl, ?_⟩) ?_
   ·
    intro wx
    go_simp
   try simp only [Act.put, LT1, LT2, LT3]
   refine Gl.wpAny_takeOf 3 (some 44) (.pointer (some ⟨g, 91, none⟩)) rfl rfl (by kernel_rfl) (by kernel_rfl) (by kernel_rfl) (fun _ _ _ h => h) (Or.inl ⟨by rfl, ?_⟩) ?_
   ·
    intro wx
    go_simp
   try simp only [Act.put, LT1, LT2, LT3]
   refine wpAny_two (i := 4) (j := 5) (by kernel_rfl) rfl rfl rfl rfl (fun K hK => ?_) (fun K hK => ?_)
   ·
    go_simp
    refine hK _ _ ?_
    clear hK K
    try simp only [Act.put, LT1, LT2, LT3]
    refine Gl.wpAny_only (i := 5) (by kernel_rfl) rfl rfl (fun K hK => ?_)
    refine wp_load_row 70 (.tmp 5) rfl r2 rfl 70 c1 (0, 0) _ (by first | exact hbX | exact hbA) Tryz.underlying70 rfl (by rw [hs21]; exact size_entry) ?_
    refine hK _ _ ?_
    clear hK K
    try simp only [Act.put, LT1, LT2, LT3]
    refine Gl.wpAny_only (i := 6) (by kernel_rfl) rfl rfl (fun K hK => ?_)
    refine wp_buildEntry 46 rfl rfl HBS ?_
    refine hK _ _ ?_
    clear hK K
    try simp only [Act.put, LT1, LT2, LT3]
    refine Gl.wpAny_only (i := 7) (by kernel_rfl) rfl rfl (fun K hK => ?_)
    refine wp_append_lies _ _ _ _ rfl 0 70 inf _ 21 192 Tryz.underlying63 hi0 hz0 hz1 hz2 rfl (by omega) lv L (flatE s1.log) rfl HOA.out ⟨X.heap.size, 0, none⟩ 1 1 c1.toList rfl HSZ.out (World.news_of_block HNB.out) HON.out (by omega) (by simp only [maxLen]; omega) (by omega) (by omega) (X.heap.size + 1) (by show (X.alloc _).heap.size = _; rw [World.size_alloc]) ?_
    intro gg cap1 w2 hown1 hgrow hat hltt
    have HG := hide (And.intro hown1 (And.intro hgrow (And.intro hat hltt)))
    have cE : w2.cell? ⟨g, 91, none⟩ = some lv := (cell_heap (hgrow.block g (by show g < (X.alloc _).heap.size; rw [World.size_alloc]; exact Nat.lt_succ_of_lt hgX) (fun e => (HC.out.ward.nl g e.symm).1 rfl)) 91).trans cl3
    have fE : w2.frozen? ⟨g, 91, none⟩ = false := frozen_of_row _ _ 91 _ _ ((hgrow.block g (by show g < (X.alloc _).heap.size; rw [World.size_alloc]; exact Nat.lt_succ_of_lt hgX) (fun e => (HC.out.ward.nl g e.symm).1 rfl)).trans (((box_below X (.cells c1 70)).block g hgX).trans HC.out.ward.row))
    clear hown1 hgrow hat hltt
    refine hK _ _ ?_
    clear hK K
    try simp only [Act.put, LT1, LT2, LT3]
    refine Gl.wpAny_only (i := 8) (by kernel_rfl) rfl rfl (fun K hK => ?_)
    go_simp
    refine hK _ _ ?_
    clear hK K
    try simp only [Act.put, LT1, LT2, LT3]
    refine Gl.wpAny_only (i := 9) (by kernel_rfl) rfl rfl (fun K hK => ?_)
    go_simp
    refine hK _ _ ?_
    clear hK K
    try simp only [Act.put, LT1, LT2, LT3]
    refine Gl.wpAny_only (i := 10) (by kernel_rfl) rfl rfl (fun K hK => ?_)
    go_simp
    refine hK _ _ ?_
    clear hK K
    try simp only [Act.put]
    refine wpAny_done (by kernel_rfl) ?_ _
    have HWM := hide (WX.more (s := s1) (l := s1.log ++ [⟨kind, n, t.call, v, errno⟩]) (lv' := .slice (some ⟨gg, 0, none⟩) (L + 1) cap1) (HC.out.ward.on (box_below X (.cells c1 70)).drew) HG.out.2.1 (fun k hk => by
      simp only [Value.ownBlock, Option.some.injEq] at hk
      subst hk
      rcases HG.out.2.2.1 with h | h
      ·
       exact .inl h
      ·
       refine .inr ?_
       rw [h]
       show (X.alloc _).heap.size ≤ _
       rw [World.size_alloc]
       exact Nat.le_refl _) (by rw [List.length_append, List.length_singleton, flatE_snoc, ← HL.out, show (entE ⟨kind, n, t.call, v, errno⟩) = c1 from HC1.out.symm]; exact HG.out.1))
    have HFM := hide (HF.out.trans (Fr.logs (n := L + 1) (cap := cap1) HC.out.ward (.slice (some ⟨gg, 0, none⟩) (L + 1) cap1) (show (X.alloc (.cells c1 70)).grownBy w2 lv.ownBlock from ⟨HG.out.2.1.os, HG.out.2.1.tape, HG.out.2.1.output, HG.out.2.1.size, HG.out.2.1.block⟩) HG.out.2.2.1))
    have hb2 : (w2.setCell ⟨g, 91, none⟩ (.slice (some ⟨gg, 0, none⟩) (L + 1) cap1)).heap[r2]? = some (.cells c1 70 (0, 0)) := by
     rw [Below.heap_setCell w2 ⟨g, 91, none⟩ _ r2 HC.out.ne.1, HG.out.2.1.block r2 (by show r2 < (X.alloc _).heap.size; rw [World.size_alloc]; exact Nat.lt_succ_of_lt (Array.getElem?_eq_some_iff.1 HC.out.box).1) (fun e => HC.out.ne.2.2 e.symm)]
     exact hbA
    obtain ⟨lv', hlv'⟩ : ∃ lv', lv' = Value.slice (some ⟨gg, 0, none⟩) (L + 1) cap1 := ⟨_, rfl⟩
    rw [← hlv'] at HWM HFM hb2
    rw [← hlv']
    obtain ⟨Y, hY⟩ : ∃ Y, Y = w2.setCell ⟨g, 91, none⟩ lv' := ⟨_, rfl⟩
    rw [← hY] at HWM HFM hb2 ⊢
    have HY := HWM
    have HFY := HFM
    have HBY := hide hb2
    clear hY HWM HFM hb2 hlv' HG cE fE cl0 cl cl2 cl3 HOA HNB HOW hbX hbA HON HSZ HBS hs21 hi0 hz0 hz1 hz2
    obtain ⟨zt, hzt⟩ : ∃ z, z = zThread := ⟨_, rfl⟩
    have HZT := hide hzt
    have HTH := hide (HY.out.setTh n hn zt (by rw [hzt]; rfl) (idleT 0) (fun j hj => by rw [hzt]; exact zThread_at j hj))
    have HFT := hide (HFY.out.trans (Fr.cells (g := g) (gm := gm) lv' Y (4 + n * 29) zt.toList))
    have hkc : (Y.setCells g (4 + n * 29) zt.toList).cell? ⟨r2, 0, none⟩ = some (.int .i64 kind) := by
     refine (cell_heap (setCells_other g r2 (fun e => HC.out.ne.1 e) zt.toList (4 + n * 29) Y) 0).trans ?_
     rw [cell_of_row _ _ 0 _ _ _ HBY.out, HC1.out]
     rfl
    clear hzt
    have HDO := hide (show WS.put ({ s1 with log := s1.log ++ [⟨kind, n, t.call, v, errno⟩] } : WS) n (idleT (if kind = 3 then 6 else 0)) = endS n kind errno v s by
     unfold endS WS.put
     rw [HS1.out, ← HT.out])
    by_cases hk3 : kind = 3
    ·
     have k3 : (kind : Int) = 3 := by omega
     have b3 : ((kind : Int) == 3) = true := by simpa using k3
     have HPH := hide (HTH.out.setPhase n 6 hn)
     rw [if_pos hk3] at HDO
     have cph := HTH.out.phase n hn
     have fph := HTH.out.fro (4 + n * 29)
     clear hk3
     go_wp2_with (first | (refine wpList_buildTo rfl 76 _ rfl (some 52) rfl zt (by rw [HZT.out]; kernel_rfl) ?_) | (refine wpList_store_mid (P := Tryz.prog) rfl 76 _ _ rfl g (4 + n * 29) zt rfl rfl (by intro j hj; exact ⟨by rw [HY.out.cell _ (by have h29 : j < 29 := (by rw [HZT.out] at hj; exact hj); omega)]; rfl, HY.out.fro _⟩) (by rw [HZT.out]; exact size_thread) (by rw [HZT.out]; exact zThread_one) ?_))
     go_end0
     refine ⟨rfl, lv', ?_, HFT.out.trans (Fr.set lv' _ _ _)⟩
     rw [← HDO.out]
     have := HPH.out
     rwa [T_put, put_put, show ({ idleT 0 with phase := 6 } : TH) = idleT 6 from rfl] at this
    ·
     have k3 : ¬ (kind : Int) = 3 := by omega
     have b3 : ((kind : Int) == 3) = false := by simpa using k3
     rw [if_neg hk3] at HDO
     clear hk3
     go_wp2_with (first | (refine wpList_buildTo rfl 76 _ rfl (some 52) rfl zt (by rw [HZT.out]; kernel_rfl) ?_) | (refine wpList_store_mid (P := Tryz.prog) rfl 76 _ _ rfl g (4 + n * 29) zt rfl rfl (by intro j hj; exact ⟨by rw [HY.out.cell _ (by have h29 : j < 29 := (by rw [HZT.out] at hj; exact hj); omega)]; rfl, HY.out.fro _⟩) (by rw [HZT.out]; exact size_thread) (by rw [HZT.out]; exact zThread_one) ?_))
     go_end0
     refine ⟨rfl, lv', ?_, HFT.out⟩
     rw [← HDO.out]
     exact HTH.out
   ·
    refine wp_load_row 70 (.tmp 5) rfl r2 rfl 70 c1 (0, 0) _ (by first | exact hbX | exact hbA) Tryz.underlying70 rfl (by rw [hs21]; exact size_entry) ?_
    refine hK _ _ ?_
    clear hK K
    try simp only [Act.put, LT1, LT2, LT3]
    refine wpAny_two (i := 4) (j := 6) (by kernel_rfl) rfl rfl rfl rfl (fun K hK => ?_) (fun K hK => ?_)
    ·
     go_simp
     refine hK _ _ ?_
     clear hK K
     try simp only [Act.put, LT1, LT2, LT3]
     refine Gl.wpAny_only (i := 6) (by kernel_rfl) rfl rfl (fun K hK => ?_)
     refine wp_buildEntry 46 rfl rfl HBS ?_
     refine hK _ _ ?_
     clear hK K
     try simp only [Act.put, LT1, LT2, LT3]
     refine Gl.wpAny_only (i := 7) (by kernel_rfl) rfl rfl (fun K hK => ?_)
     refine wp_append_lies _ _ _ _ rfl 0 70 inf _ 21 192 Tryz.underlying63 hi0 hz0 hz1 hz2 rfl (by omega) lv L (flatE s1.log) rfl HOA.out ⟨X.heap.size, 0, none⟩ 1 1 c1.toList rfl HSZ.out (World.news_of_block HNB.out) HON.out (by omega) (by simp only [maxLen]; omega) (by omega) (by omega) (X.heap.size + 1) (by show (X.alloc _).heap.size = _; rw [World.size_alloc]) ?_
     intro gg cap1 w2 hown1 hgrow hat hltt
     have HG := hide (And.intro hown1 (And.intro hgrow (And.intro hat hltt)))
     have cE : w2.cell? ⟨g, 91, none⟩ = some lv := (cell_heap (hgrow.block g (by show g < (X.alloc _).heap.size; rw [World.size_alloc]; exact Nat.lt_succ_of_lt hgX) (fun e => (HC.out.ward.nl g e.symm).1 rfl)) 91).trans cl3
     have fE : w2.frozen? ⟨g, 91, none⟩ = false := frozen_of_row _ _ 91 _ _ ((hgrow.block g (by show g < (X.alloc _).heap.size; rw [World.size_alloc]; exact Nat.lt_succ_of_lt hgX) (fun e => (HC.out.ward.nl g e.symm).1 rfl)).trans (((box_below X (.cells c1 70)).block g hgX).trans HC.out.ward.row))
     clear hown1 hgrow hat hltt
     refine hK _ _ ?_
     clear hK K
     try simp only [Act.put, LT1, LT2, LT3]
     refine Gl.wpAny_only (i := 8) (by kernel_rfl) rfl rfl (fun K hK => ?_)
     go_simp
     refine hK _ _ ?_
     clear hK K
     try simp only [Act.put, LT1, LT2, LT3]
     refine Gl.wpAny_only (i := 9) (by kernel_rfl) rfl rfl (fun K hK => ?_)
     go_simp
     refine hK _ _ ?_
     clear hK K
     try simp only [Act.put, LT1, LT2, LT3]
     refine Gl.wpAny_only (i := 10) (by kernel_rfl) rfl rfl (fun K hK => ?_)
     go_simp
     refine hK _ _ ?_
     clear hK K
     try simp only [Act.put]
     refine wpAny_done (by kernel_rfl) ?_ _
     have HWM := hide (WX.more (s := s1) (l := s1.log ++ [⟨kind, n, t.call, v, errno⟩]) (lv' := .slice (some ⟨gg, 0, none⟩) (L + 1) cap1) (HC.out.ward.on (box_below X (.cells c1 70)).drew) HG.out.2.1 (fun k hk => by
       simp only [Value.ownBlock, Option.some.injEq] at hk
       subst hk
       rcases HG.out.2.2.1 with h | h
       ·
        exact .inl h
       ·
        refine .inr ?_
        rw [h]
        show (X.alloc _).heap.size ≤ _
        rw [World.size_alloc]
        exact Nat.le_refl _) (by rw [List.length_append, List.length_singleton, flatE_snoc, ← HL.out, show (entE ⟨kind, n, t.call, v, errno⟩) = c1 from HC1.out.symm]; exact HG.out.1))
     have HFM := hide (HF.out.trans (Fr.logs (n := L + 1) (cap := cap1) HC.out.ward (.slice (some ⟨gg, 0, none⟩) (L + 1) cap1) (show (X.alloc (.cells c1 70)).grownBy w2 lv.ownBlock from ⟨HG.out.2.1.os, HG.out.2.1.tape, HG.out.2.1.output, HG.out.2.1.size, HG.out.2.1.block⟩) HG.out.2.2.1))
     have hb2 : (w2.setCell ⟨g, 91, none⟩ (.slice (some ⟨gg, 0, none⟩) (L + 1) cap1)).heap[r2]? = some (.cells c1 70 (0, 0)) := by
      rw [Below.heap_setCell w2 ⟨g, 91, none⟩ _ r2 HC.out.ne.1, HG.out.2.1.block r2 (by show r2 < (X.alloc _).heap.size; rw [World.size_alloc]; exact Nat.lt_succ_of_lt (Array.getElem?_eq_some_iff.1 HC.out.box).1) (fun e => HC.out.ne.2.2 e.symm)]
      exact hbA
     obtain ⟨lv', hlv'⟩ : ∃ lv', lv' = Value.slice (some ⟨gg, 0, none⟩) (L + 1) cap1 := ⟨_, rfl⟩
     rw [← hlv'] at HWM HFM hb2
     rw [← hlv']
     obtain ⟨Y, hY⟩ : ∃ Y, Y = w2.setCell ⟨g, 91, none⟩ lv' := ⟨_, rfl⟩
     rw [← hY] at HWM HFM hb2 ⊢
     have HY := HWM
     have HFY := HFM
     have HBY := hide hb2
     clear hY HWM HFM hb2 hlv' HG cE fE cl0 cl cl2 cl3 HOA HNB HOW hbX hbA HON HSZ HBS hs21 hi0 hz0 hz1 hz2
     obtain ⟨zt, hzt⟩ : ∃ z, z = zThread := ⟨_, rfl⟩
     have HZT := hide hzt
     have HTH := hide (HY.out.setTh n hn zt (by rw [hzt]; rfl) (idleT 0) (fun j hj => by rw [hzt]; exact zThread_at j hj))
     have HFT := hide (HFY.out.trans (Fr.cells (g := g) (gm := gm) lv' Y (4 + n * 29) zt.toList))
     have hkc : (Y.setCells g (4 + n * 29) zt.toList).cell? ⟨r2, 0, none⟩ = some (.int .i64 kind) := by
      refine (cell_heap (setCells_other g r2 (fun e => HC.out.ne.1 e) zt.toList (4 + n * 29) Y) 0).trans ?_
      rw [cell_of_row _ _ 0 _ _ _ HBY.out, HC1.out]
      rfl
     clear hzt
     have HDO := hide (show WS.put ({ s1 with log := s1.log ++ [⟨kind, n, t.call, v, errno⟩] } : WS) n (idleT (if kind = 3 then 6 else 0)) = endS n kind errno v s by
      unfold endS WS.put
      rw [HS1.out, ← HT.out])
     by_cases hk3 : kind = 3
     ·
      have k3 : (kind : Int) = 3 := by omega
      have b3 : ((kind : Int) == 3) = true := by simpa using k3
      have HPH := hide (HTH.out.setPhase n 6 hn)
      rw [if_pos hk3] at HDO
      have cph := HTH.out.phase n hn
      have fph := HTH.out.fro (4 + n * 29)
      clear hk3
      go_wp2_with (first | (refine wpList_buildTo rfl 76 _ rfl (some 52) rfl zt (by rw [HZT.out]; kernel_rfl) ?_) | (refine wpList_store_mid (P := Tryz.prog) rfl 76 _ _ rfl g (4 + n * 29) zt rfl rfl (by intro j hj; exact ⟨by rw [HY.out.cell _ (by have h29 : j < 29 := (by rw [HZT.out] at hj; exact hj); omega)]; rfl, HY.out.fro _⟩) (by rw [HZT.out]; exact size_thread) (by rw [HZT.out]; exact zThread_one) ?_))
      go_end0
      refine ⟨rfl, lv', ?_, HFT.out.trans (Fr.set lv' _ _ _)⟩
      rw [← HDO.out]
      have := HPH.out
      rwa [T_put, put_put, show ({ idleT 0 with phase := 6 } : TH) = idleT 6 from rfl] at this
     ·
      have k3 : ¬ (kind : Int) = 3 := by omega
      have b3 : ((kind : Int) == 3) = false := by simpa using k3
      rw [if_neg hk3] at HDO
      clear hk3
      go_wp2_with (first | (refine wpList_buildTo rfl 76 _ rfl (some 52) rfl zt (by rw [HZT.out]; kernel_rfl) ?_) | (refine wpList_store_mid (P := Tryz.prog) rfl 76 _ _ rfl g (4 + n * 29) zt rfl rfl (by intro j hj; exact ⟨by rw [HY.out.cell _ (by have h29 : j < 29 := (by rw [HZT.out] at hj; exact hj); omega)]; rfl, HY.out.fro _⟩) (by rw [HZT.out]; exact size_thread) (by rw [HZT.out]; exact zThread_one) ?_))
      go_end0
      refine ⟨rfl, lv', ?_, HFT.out⟩
      rw [← HDO.out]
      exact HTH.out
    ·
     refine wp_buildEntry 46 rfl rfl HBS ?_
     refine hK _ _ ?_
     clear hK K
     try simp only [Act.put, LT1, LT2, LT3]
     refine Gl.wpAny_only (i := 4) (by kernel_rfl) rfl rfl (fun K hK => ?_)
     go_simp
     refine hK _ _ ?_
     clear hK K
     try simp only [Act.put, LT1, LT2, LT3]
     refine Gl.wpAny_only (i := 7) (by kernel_rfl) rfl rfl (fun K hK => ?_)
     refine wp_append_lies _ _ _ _ rfl 0 70 inf _ 21 192 Tryz.underlying63 hi0 hz0 hz1 hz2 rfl (by omega) lv L (flatE s1.log) rfl HOA.out ⟨X.heap.size, 0, none⟩ 1 1 c1.toList rfl HSZ.out (World.news_of_block HNB.out) HON.out (by omega) (by simp only [maxLen]; omega) (by omega) (by omega) (X.heap.size + 1) (by show (X.alloc _).heap.size = _; rw [World.size_alloc]) ?_
     intro gg cap1 w2 hown1 hgrow hat hltt
     have HG := hide (And.intro hown1 (And.intro hgrow (And.intro hat hltt)))
     have cE : w2.cell? ⟨g, 91, none⟩ = some lv := (cell_heap (hgrow.block g (by show g < (X.alloc _).heap.size; rw [World.size_alloc]; exact Nat.lt_succ_of_lt hgX) (fun e => (HC.out.ward.nl g e.symm).1 rfl)) 91).trans cl3
     have fE : w2.frozen? ⟨g, 91, none⟩ = false := frozen_of_row _ _ 91 _ _ ((hgrow.block g (by show g < (X.alloc _).heap.size; rw [World.size_alloc]; exact Nat.lt_succ_of_lt hgX) (fun e => (HC.out.ward.nl g e.symm).1 rfl)).trans (((box_below X (.cells c1 70)).block g hgX).trans HC.out.ward.row))
     clear hown1 hgrow hat hltt
     refine hK _ _ ?_
     clear hK K
     try simp only [Act.put, LT1, LT2, LT3]
     refine Gl.wpAny_only (i := 8) (by kernel_rfl) rfl rfl (fun K hK => ?_)
     go_simp
     refine hK _ _ ?_
     clear hK K
     try simp only [Act.put, LT1, LT2, LT3]
     refine Gl.wpAny_only (i := 9) (by kernel_rfl) rfl rfl (fun K hK => ?_)
     go_simp
     refine hK _ _ ?_
     clear hK K
     try simp only [Act.put, LT1, LT2, LT3]
     refine Gl.wpAny_only (i := 10) (by kernel_rfl) rfl rfl (fun K hK => ?_)
     go_simp
     refine hK _ _ ?_
     clear hK K
     try simp only [Act.put]
     refine wpAny_done (by kernel_rfl) ?_ _
     have HWM := hide (WX.more (s := s1) (l := s1.log ++ [⟨kind, n, t.call, v, errno⟩]) (lv' := .slice (some ⟨gg, 0, none⟩) (L + 1) cap1) (HC.out.ward.on (box_below X (.cells c1 70)).drew) HG.out.2.1 (fun k hk => by
       simp only [Value.ownBlock, Option.some.injEq] at hk
       subst hk
       rcases HG.out.2.2.1 with h | h
       ·
        exact .inl h
       ·
        refine .inr ?_
        rw [h]
        show (X.alloc _).heap.size ≤ _
        rw [World.size_alloc]
        exact Nat.le_refl _) (by rw [List.length_append, List.length_singleton, flatE_snoc, ← HL.out, show (entE ⟨kind, n, t.call, v, errno⟩) = c1 from HC1.out.symm]; exact HG.out.1))
     have HFM := hide (HF.out.trans (Fr.logs (n := L + 1) (cap := cap1) HC.out.ward (.slice (some ⟨gg, 0, none⟩) (L + 1) cap1) (show (X.alloc (.cells c1 70)).grownBy w2 lv.ownBlock from ⟨HG.out.2.1.os, HG.out.2.1.tape, HG.out.2.1.output, HG.out.2.1.size, HG.out.2.1.block⟩) HG.out.2.2.1))
     have hb2 : (w2.setCell ⟨g, 91, none⟩ (.slice (some ⟨gg, 0, none⟩) (L + 1) cap1)).heap[r2]? = some (.cells c1 70 (0, 0)) := by
      rw [Below.heap_setCell w2 ⟨g, 91, none⟩ _ r2 HC.out.ne.1, HG.out.2.1.block r2 (by show r2 < (X.alloc _).heap.size; rw [World.size_alloc]; exact Nat.lt_succ_of_lt (Array.getElem?_eq_some_iff.1 HC.out.box).1) (fun e => HC.out.ne.2.2 e.symm)]
      exact hbA
     obtain ⟨lv', hlv'⟩ : ∃ lv', lv' = Value.slice (some ⟨gg, 0, none⟩) (L + 1) cap1 := ⟨_, rfl⟩
     rw [← hlv'] at HWM HFM hb2
     rw [← hlv']
     obtain ⟨Y, hY⟩ : ∃ Y, Y = w2.setCell ⟨g, 91, none⟩ lv' := ⟨_, rfl⟩
     rw [← hY] at HWM HFM hb2 ⊢
     have HY := HWM
     have HFY := HFM
     have HBY := hide hb2
     clear hY HWM HFM hb2 hlv' HG cE fE cl0 cl cl2 cl3 HOA HNB HOW hbX hbA HON HSZ HBS hs21 hi0 hz0 hz1 hz2
     obtain ⟨zt, hzt⟩ : ∃ z, z = zThread := ⟨_, rfl⟩
     have HZT := hide hzt
     have HTH := hide (HY.out.setTh n hn zt (by rw [hzt]; rfl) (idleT 0) (fun j hj => by rw [hzt]; exact zThread_at j hj))
     have HFT := hide (HFY.out.trans (Fr.cells (g := g) (gm := gm) lv' Y (4 + n * 29) zt.toList))
     have hkc : (Y.setCells g (4 + n * 29) zt.toList).cell? ⟨r2, 0, none⟩ = some (.int .i64 kind) := by
      refine (cell_heap (setCells_other g r2 (fun e => HC.out.ne.1 e) zt.toList (4 + n * 29) Y) 0).trans ?_
      rw [cell_of_row _ _ 0 _ _ _ HBY.out, HC1.out]
      rfl
     clear hzt
     have HDO := hide (show WS.put ({ s1 with log := s1.log ++ [⟨kind, n, t.call, v, errno⟩] } : WS) n (idleT (if kind = 3 then 6 else 0)) = endS n kind errno v s by
      unfold endS WS.put
      rw [HS1.out, ← HT.out])
     by_cases hk3 : kind = 3
     ·
      have k3 : (kind : Int) = 3 := by omega
      have b3 : ((kind : Int) == 3) = true := by simpa using k3
      have HPH := hide (HTH.out.setPhase n 6 hn)
      rw [if_pos hk3] at HDO
      have cph := HTH.out.phase n hn
      have fph := HTH.out.fro (4 + n * 29)
      clear hk3
      go_wp2_with (first | (refine wpList_buildTo rfl 76 _ rfl (some 52) rfl zt (by rw [HZT.out]; kernel_rfl) ?_) | (refine wpList_store_mid (P := Tryz.prog) rfl 76 _ _ rfl g (4 + n * 29) zt rfl rfl (by intro j hj; exact ⟨by rw [HY.out.cell _ (by have h29 : j < 29 := (by rw [HZT.out] at hj; exact hj); omega)]; rfl, HY.out.fro _⟩) (by rw [HZT.out]; exact size_thread) (by rw [HZT.out]; exact zThread_one) ?_))
      go_end0
      refine ⟨rfl, lv', ?_, HFT.out.trans (Fr.set lv' _ _ _)⟩
      rw [← HDO.out]
      have := HPH.out
      rwa [T_put, put_put, show ({ idleT 0 with phase := 6 } : TH) = idleT 6 from rfl] at this
     ·
      have k3 : ¬ (kind : Int) = 3 := by omega
      have b3 : ((kind : Int) == 3) = false := by simpa using k3
      rw [if_neg hk3] at HDO
      clear hk3
      go_wp2_with (first | (refine wpList_buildTo rfl 76 _ rfl (some 52) rfl zt (by rw [HZT.out]; kernel_rfl) ?_) | (refine wpList_store_mid (P := Tryz.prog) rfl 76 _ _ rfl g (4 + n * 29) zt rfl rfl (by intro j hj; exact ⟨by rw [HY.out.cell _ (by have h29 : j < 29 := (by rw [HZT.out] at hj; exact hj); omega)]; rfl, HY.out.fro _⟩) (by rw [HZT.out]; exact size_thread) (by rw [HZT.out]; exact zThread_one) ?_))
      go_end0
      refine ⟨rfl, lv', ?_, HFT.out⟩
      rw [← HDO.out]
      exact HTH.out
end Go.Proofs.YtklibmijiecbfaaGreat

/- refuse, fail, do. -/
namespace Go.Proofs.YtklibmijiecbfaaGreat
open Go.RowKit Mm

def Goes (g gm : Nat) (P : PV) (s' : WS) (lv : Value) (W : World) (e : Ending) (w' : World) : Prop := e = .returned (.tuple #[]) ∧ ∃ lv', WX g gm P s' lv' w' ∧ Fr g gm lv lv' W w'
theorem Goes.from {g gm : Nat} {P : PV} {s' : WS} {lv : Value} {W X : World} {e : Ending} {w' : World} (hb : Below W.heap.size W X) (h : Goes g gm P s' lv X e w') : Goes g gm P s' lv W e w' := by
 obtain ⟨h1, lv', h2, h3⟩ := h
 exact ⟨h1, lv', h2, (Fr.of lv hb).trans h3⟩
theorem entA_refused (errno : Int) : entA ((2 : Nat) : Int) 0 zeroKL zeroVS errno = #[.int .i64 2, .int .i64 0, .int .u32 0, .int .u32 0, .int .u64 0, .int .u64 0, .int .u64 0, .int .u64 0, .string ⟨#[]⟩, .int .u32 0, .int .i64 0, .string ⟨#[]⟩, .int .u32 0, .int .i64 0, .string ⟨#[]⟩, .int .u32 0, .int .i64 0, .string ⟨#[]⟩, .int .u32 0, .int .i64 0, .int .i64 errno] := rfl
theorem entA_killed : entA ((3 : Nat) : Int) 0 zeroKL zeroVS 0 = #[.int .i64 3, .int .i64 0, .int .u32 0, .int .u32 0, .int .u64 0, .int .u64 0, .int .u64 0, .int .u64 0, .string ⟨#[]⟩, .int .u32 0, .int .i64 0, .string ⟨#[]⟩, .int .u32 0, .int .i64 0, .string ⟨#[]⟩, .int .u32 0, .int .i64 0, .string ⟨#[]⟩, .int .u32 0, .int .i64 0, .int .i64 0] := rfl
theorem refuse_any {g gm : Nat} {P : PV} {s : WS} {lv : Value} {W : World} (n : Nat) (hn : n < 3) (errno : Int) (h : WX g gm P s lv W) (hlog : s.log.length ≤ 1000000) :
  Calls Tryz.prog 60 #[.pointer (some ⟨g, 0, none⟩), .int .i64 n, .int .i64 errno] W (Goes g gm P (endS n 2 errno zeroVS s) lv W) := by
 have HE := wend_any n hn 2 errno zeroVS h hlog
 rw [entA_refused] at HE
 clear h
 go_enter Tryz.func60, Tryz.ntmps60
 go_wp2_with fail
 refine HE.mono ?_
 rintro e w' ⟨rfl, h1⟩
 go_wp2
 go_end0
 exact ⟨rfl, h1⟩
theorem fail_any {g gm : Nat} {P : PV} {s : WS} {lv : Value} {W : World} (n : Nat) (hn : n < 3) (f : Nat) (h : WX g gm P s lv W) (hlog : s.log.length ≤ 1000000) :
  Calls Tryz.prog 54 #[.pointer (some ⟨g, 0, none⟩), .int .i64 n, .iface 82 (.int .i64 (f : Int))] W (Goes g gm P (endS n 2 (errnoN f : Nat) zeroVS s) lv W) := by
 have HE := refuse_any n hn (errnoN f : Nat) h hlog
 have HO := errnoOf_any f W
 obtain ⟨k, hk⟩ : ∃ k : Int, k = (errnoN f : Nat) := ⟨_, rfl⟩
 rw [← hk] at HE HO
 rw [← hk]
 clear h hk
 go_enter Tryz.func54, Tryz.ntmps54
 go_wp2_with fail
 refine HO.mono ?_
 rintro e w' ⟨rfl, hw⟩
 rw [hw]
 clear hw HO
 go_wp2_with fail
 refine HE.mono ?_
 rintro e w' ⟨rfl, h1⟩
 go_wp2
 go_end0
 exact ⟨rfl, h1⟩
theorem do_any {g gm : Nat} {P : PV} {s : WS} {lv : Value} {W : World} (n : Nat) (hn : n < 3) (a : ACT) (ha : actF a = 0) (next : Nat) (h : WX g gm P s lv W) (hlog : s.log.length ≤ 1000000) :
  Calls Tryz.prog 51 #[.pointer (some ⟨g, 0, none⟩), .int .i64 n, actV a, .int .i64 next] W (Goes g gm P (doS n a next s) lv W) := by
 have j1 : (0 : Int) ≤ n := by omega
 have j2 : (n : Int) < 3 := by omega
 unfold actV
 obtain ⟨V, hV, hVb, hVs, hVc⟩ := one_box W #[.int .i64 a.kind, .int .i64 a.errno] 24
 have c0 := hVc 0
 have c1 := hVc 1
 simp only [List.getElem?_toArray, List.getElem?_cons_zero, List.getElem?_cons_succ] at c0 c1
 have hg := h.glt
 have HX := hide (h.on hVb)
 clear hVc hVs
 rcases act_cases ha with rfl | rfl | ⟨k, hk1, hk2, rfl⟩
 ·
  have HS := hide ((h.setPhase n next hn).on (box_below _ (.cells #[.int .i64 1, .int .i64 0] 24)))
  have cp := HX.out.phase n hn
  have fp := HX.out.fro (4 + n * 29)
  have HD := hide (show doS n ⟨1, 0⟩ next s = s.put n { s.T n with phase := next } from rfl)
  simp only at hV c0 c1 ⊢
  rw [HD.out]
  subst hV
  clear h
  go_enter Tryz.func51, Tryz.ntmps51
  go_wp2
  go_end0
  exact ⟨rfl, lv, HS.out, (Fr.set lv _ _ _).trans (Fr.of lv (box_below _ _))⟩
 ·
  have HE := wend_any n hn 3 0 zeroVS HX.out hlog
  rw [entA_killed] at HE
  have HD := hide (show doS n ⟨3, 0⟩ next s = endS n 3 0 zeroVS s from rfl)
  simp only at hV c0 c1 ⊢
  rw [HD.out]
  clear h
  go_enter Tryz.func51, Tryz.ntmps51
  go_wp2_with fail
  rw [← hV]
  refine HE.mono ?_
  rintro e w' ⟨rfl, h1⟩
  go_wp2
  go_end0
  exact Goes.from hVb ⟨rfl, h1⟩
 ·
  have HE := refuse_any n hn k HX.out hlog
  have HD := hide (show doS n ⟨2, (k : Int)⟩ next s = endS n 2 k zeroVS s from rfl)
  simp only at hV c0 c1 ⊢
  rw [HD.out]
  clear h
  go_enter Tryz.func51, Tryz.ntmps51
  go_wp2_with fail
  rw [← hV]
  refine HE.mono ?_
  rintro e w' ⟨rfl, h1⟩
  go_wp2
  go_end0
  exact Goes.from hVb ⟨rfl, h1⟩
end Go.Proofs.YtklibmijiecbfaaGreat

/- checkAlive, Phase, Map, Unmap, Put. -/
namespace Go.Proofs.YtklibmijiecbfaaGreat
open Go.RowKit Mm

def aliveF (n : Int) (s : WS) : Nat := if 0 ≤ n ∧ n < 3 then (if (s.T n.toNat).phase = 6 then 8 else 0) else 1
theorem alive_any {g gm : Nat} {P : PV} {s : WS} {lv : Value} {W : World} (n : Int) (h : WX g gm P s lv W) :
  Calls Tryz.prog 26 #[.pointer (some ⟨g, 0, none⟩), .int .i64 n] W fun e w' => e = .returned (errV (aliveF n s)) ∧ w' = W := by
 have HT := isThread_any n W
 unfold aliveF
 by_cases hn : 0 ≤ n ∧ n < 3
 ·
  rw [if_pos hn]
  rw [show (decide (0 ≤ n) && decide (n < 3)) = true by simp [hn]] at HT
  obtain ⟨k, rfl⟩ : ∃ k : Nat, n = k := ⟨n.toNat, by omega⟩
  have hk : k < 3 := by omega
  have j1 : (0 : Int) ≤ k := hn.1
  have j2 : (k : Int) < 3 := hn.2
  rw [Int.toNat_natCast]
  have cp := h.phase k hk
  obtain ⟨q, hq⟩ : ∃ q, q = (s.T k).phase := ⟨_, rfl⟩
  rw [← hq] at cp
  rw [← hq]
  clear h hq hn
  by_cases h6 : q = 6
  ·
   subst h6
   rw [if_pos rfl, errV_pos (by omega)]
   go_enter Tryz.func26, Tryz.ntmps26
   go_wp2_with fail
   refine HT.mono ?_
   rintro e w' ⟨rfl, rfl⟩
   go_wp2
   go_ret
   exact ⟨rfl, rfl⟩
  ·
   rw [if_neg h6, errV_zero]
   have h6' : ¬ ((q : Int) = 6) := by omega
   go_enter Tryz.func26, Tryz.ntmps26
   go_wp2_with fail
   refine HT.mono ?_
   rintro e w' ⟨rfl, rfl⟩
   go_wp2
   go_ret
   exact ⟨rfl, rfl⟩
 ·
  rw [if_neg hn, errV_pos (by omega)]
  rw [show (decide (0 ≤ n) && decide (n < 3)) = false by
   by_cases h0 : 0 ≤ n
   ·
    rw [decide_eq_false (p := n < 3) (fun h3 => hn ⟨h0, h3⟩), Bool.and_false]
   ·
    rw [decide_eq_false h0, Bool.false_and]] at HT
  clear h
  go_enter Tryz.func26, Tryz.ntmps26
  go_wp2_with fail
  refine HT.mono ?_
  rintro e w' ⟨rfl, rfl⟩
  go_wp2
  go_ret
  exact ⟨rfl, rfl⟩
theorem wphase_any {g gm : Nat} {P : PV} {s : WS} {lv : Value} {W : World} (n : Int) (h : WX g gm P s lv W) :
  Calls Tryz.prog 39 #[.pointer (some ⟨g, 0, none⟩), .int .i64 n] W fun e w' => e = .returned (.int .i64 (phaseW n s : Nat)) ∧ w' = W := by
 have HT := isThread_any n W
 unfold phaseW
 by_cases hn : 0 ≤ n ∧ n < 3
 ·
  rw [if_pos hn]
  rw [show (decide (0 ≤ n) && decide (n < 3)) = true by simp [hn]] at HT
  obtain ⟨k, rfl⟩ : ∃ k : Nat, n = k := ⟨n.toNat, by omega⟩
  have hk : k < 3 := by omega
  have j1 : (0 : Int) ≤ k := hn.1
  have j2 : (k : Int) < 3 := hn.2
  rw [Int.toNat_natCast]
  have cp := h.phase k hk
  obtain ⟨q, hq⟩ : ∃ q, q = (s.T k).phase := ⟨_, rfl⟩
  rw [← hq] at cp
  rw [← hq]
  clear h hq hn
  go_enter Tryz.func39, Tryz.ntmps39
  go_wp2_with fail
  refine HT.mono ?_
  rintro e w' ⟨rfl, rfl⟩
  go_wp2
  go_ret
  exact ⟨rfl, rfl⟩
 ·
  rw [if_neg hn]
  rw [show (decide (0 ≤ n) && decide (n < 3)) = false by
   by_cases h0 : 0 ≤ n
   ·
    rw [decide_eq_false (p := n < 3) (fun h3 => hn ⟨h0, h3⟩), Bool.and_false]
   ·
    rw [decide_eq_false h0, Bool.false_and]] at HT
  clear h
  go_enter Tryz.func39, Tryz.ntmps39
  go_wp2_with fail
  refine HT.mono ?_
  rintro e w' ⟨rfl, rfl⟩
  go_wp2
  go_ret
  exact ⟨rfl, rfl⟩
def GoesM (g gm : Nat) (P : PV) (s : WS) (r : MS × Nat) (lv : Value) (W : World) (e : Ending) (w' : World) : Prop := e = .returned (errV r.2) ∧ WX g gm P { s with mem := r.1 } lv w' ∧ Fr g gm lv lv W w'
theorem wmap_any {g gm : Nat} {P : PV} {s : WS} {lv : Value} {W : World} (n : Int) (b : Bool) (h : WX g gm P s lv W) :
  Calls Tryz.prog 13 #[.pointer (some ⟨g, 0, none⟩), .int .i64 n, .bool b] W (GoesM g gm P s (mapW n b s.mem) lv W) := by
 have HM := mmap_any h.mem n b
 have HX := hide h
 have cp := h.ptr
 obtain ⟨r, hr⟩ : ∃ r, r = mapW n b s.mem := ⟨_, rfl⟩
 rw [← hr] at HM
 rw [← hr]
 obtain ⟨v, hv⟩ : ∃ v, v = errV r.2 := ⟨_, rfl⟩
 unfold GoesM
 rw [← hv] at HM
 rw [← hv]
 clear h hr hv
 go_enter Tryz.func13, Tryz.ntmps13
 go_wp2_with fail
 refine HM.mono ?_
 rintro e w' ⟨rfl, h1, h2⟩
 go_wp2
 go_ret
 exact ⟨rfl, HX.out.memo h1 h2, Fr.grown lv h2 (.inr rfl)⟩
theorem wunmap_any {g gm : Nat} {P : PV} {s : WS} {lv : Value} {W : World} (n : Int) (h : WX g gm P s lv W) :
  Calls Tryz.prog 33 #[.pointer (some ⟨g, 0, none⟩), .int .i64 n] W (GoesM g gm P s (unmapW n s.mem) lv W) := by
 have HM := munmap_any h.mem n
 have HX := hide h
 have cp := h.ptr
 obtain ⟨r, hr⟩ : ∃ r, r = unmapW n s.mem := ⟨_, rfl⟩
 rw [← hr] at HM
 rw [← hr]
 obtain ⟨v, hv⟩ : ∃ v, v = errV r.2 := ⟨_, rfl⟩
 unfold GoesM
 rw [← hv] at HM
 rw [← hv]
 clear h hr hv
 go_enter Tryz.func33, Tryz.ntmps33
 go_wp2_with fail
 refine HM.mono ?_
 rintro e w' ⟨rfl, h1, h2⟩
 go_wp2
 go_ret
 exact ⟨rfl, HX.out.memo h1 h2, Fr.grown lv h2 (.inr rfl)⟩
theorem wput_any {g gm : Nat} {P : PV} {s : WS} {lv : Value} {W : World} (a : Nat) (l : ByteArray) (ha : a < 18446744073709551616) (hl : l.size ≤ 1000) (h : WX g gm P s lv W) :
  Calls Tryz.prog 35 #[.pointer (some ⟨g, 0, none⟩), .int .u64 a, .string l] W (GoesM g gm P s (putW a l s.mem) lv W) := by
 have HM := mput_any h.mem a l ha hl
 have HX := hide h
 have cp := h.ptr
 obtain ⟨r, hr⟩ : ∃ r, r = putW a l s.mem := ⟨_, rfl⟩
 rw [← hr] at HM
 rw [← hr]
 obtain ⟨v, hv⟩ : ∃ v, v = errV r.2 := ⟨_, rfl⟩
 unfold GoesM
 rw [← hv] at HM
 rw [← hv]
 clear h hr hv
 go_enter Tryz.func35, Tryz.ntmps35
 go_wp2_with fail
 refine HM.mono ?_
 rintro e w' ⟨rfl, h1, h2⟩
 go_wp2
 go_ret
 exact ⟨rfl, HX.out.memo h1 h2, Fr.grown lv h2 (.inr rfl)⟩
end Go.Proofs.YtklibmijiecbfaaGreat

/- Enter. -/
namespace Go.Proofs.YtklibmijiecbfaaGreat
open Go.RowKit Mm

theorem wenter_err {g gm : Nat} {P : PV} {s : WS} {lv : Value} {W : World} (n : Int) (c : KL) (hf : aliveF n s ≠ 0) (h : WX g gm P s lv W) :
  Calls Tryz.prog 14 #[.pointer (some ⟨g, 0, none⟩), .int .i64 n, klV c] W fun e w' => e = .returned (errV (aliveF n s)) ∧ Below W.heap.size W w' := by
 have HA := alive_any n (h.on (box_below W (.cells (klC c) 52)))
 rw [errV_pos hf] at HA
 rw [errV_pos hf]
 obtain ⟨f, hf'⟩ : ∃ f, f = aliveF n s := ⟨_, rfl⟩
 rw [← hf'] at HA
 rw [← hf']
 clear h hf' hf
 unfold klV klC
 unfold klC at HA
 go_enter Tryz.func14, Tryz.ntmps14
 go_wp2_with fail
 refine HA.mono ?_
 rintro e w' ⟨rfl, rfl⟩
 go_wp2
 go_ret
 exact ⟨rfl, box_below _ _⟩
theorem wenter_busy {g gm : Nat} {P : PV} {s : WS} {lv : Value} {W : World} (n : Nat) (hn : n < 3) (c : KL) (hq : (s.T n).phase ≠ 0) (hq6 : (s.T n).phase ≠ 6) (h : WX g gm P s lv W) :
  Calls Tryz.prog 14 #[.pointer (some ⟨g, 0, none⟩), .int .i64 n, klV c] W fun e w' => e = .returned (errV 7) ∧ Below W.heap.size W w' := by
 have hX := h.on (box_below W (.cells (klC c) 52))
 have HA := alive_any n hX
 have j1 : (0 : Int) ≤ n := by omega
 have j2 : (n : Int) < 3 := by omega
 rw [show aliveF n s = 0 by unfold aliveF; rw [if_pos ⟨j1, j2⟩, Int.toNat_natCast, if_neg hq6], errV_zero] at HA
 rw [errV_pos (by omega)]
 have cp := hX.phase n hn
 obtain ⟨q, hqq⟩ : ∃ q, q = (s.T n).phase := ⟨_, rfl⟩
 rw [← hqq] at cp hq
 have hq' : ¬ ((q : Int) = 0) := by omega
 clear h hqq hq6 hX
 unfold klV klC
 unfold klC at HA cp
 go_enter Tryz.func14, Tryz.ntmps14
 go_wp2_with fail
 refine HA.mono ?_
 rintro e w' ⟨rfl, rfl⟩
 go_wp2
 go_ret
 exact ⟨rfl, box_below _ _⟩
def eThread (c : KL) : Array Value := #[.int .i64 1, .int .u32 c.arch, .int .u32 c.nr, .int .u64 c.a0, .int .u64 c.a1, .int .u64 c.a2, .int .u64 c.a3, .int .u64 c.a0, .int .u64 c.a1, .int .u64 c.a2, .int .u64 c.a3, .bool false, .bool false, .bool false, .bool false, .int .i64 0, .string ⟨#[]⟩, .string ⟨#[]⟩, .int .u32 0, .int .i64 0, .string ⟨#[]⟩, .int .u32 0, .int .i64 0, .string ⟨#[]⟩, .int .u32 0, .int .i64 0, .string ⟨#[]⟩, .int .u32 0, .int .i64 0]
theorem eThread_at (c : KL) : ∀ j, j < 29 → (eThread c).toList.getD j undef = cellT (enterT c) j := by
 intro j hj
 match j, hj with
 | 0, _ => rfl
 | 1, _ => rfl
 | 2, _ => rfl
 | 3, _ => rfl
 | 4, _ => rfl
 | 5, _ => rfl
 | 6, _ => rfl
 | 7, _ => rfl
 | 8, _ => rfl
 | 9, _ => rfl
 | 10, _ => rfl
 | 11, _ => rfl
 | 12, _ => rfl
 | 13, _ => rfl
 | 14, _ => rfl
 | 15, _ => rfl
 | 16, _ => rfl
 | 17, _ => rfl
 | 18, _ => rfl
 | 19, _ => rfl
 | 20, _ => rfl
 | 21, _ => rfl
 | 22, _ => rfl
 | 23, _ => rfl
 | 24, _ => rfl
 | 25, _ => rfl
 | 26, _ => rfl
 | 27, _ => rfl
 | 28, _ => rfl
 | j + 29, hj => omega
theorem eThread_one (c : KL) : (eThread c).all (·.oneCell') = true := by simp [eThread, Value.oneCell']
theorem wp_buildC {o : Oper} {a : Act} {w : World} {K : Act → World → Prop} {Q : Exit → Act → World → Prop} (t : TypeId) (parts : Array (Nat × Operand)) (ho : o.op = .build t parts) (d : Option Tmp) (hd : o.dst = d) (cells : Array Value)
  (hf : Tryz.prog.built t (parts.map fun (i, x) => (i, a.eval x)).toList = some cells) (h : K (a.put d (.agg cells)) w) : o.wp Tryz.prog a w K Q := by
 subst hd
 refine wp_build t parts ho (by rw [hf]; rfl) ?_
 rw [hf]
 exact h
set_option maxHeartbeats 2000000 in
set_option maxRecDepth 20000 in
theorem wenter_ok {g gm : Nat} {P : PV} {s : WS} {lv : Value} {W : World} (n : Nat) (hn : n < 3) (c : KL) (hq : (s.T n).phase = 0) (h : WX g gm P s lv W) :
  Calls Tryz.prog 14 #[.pointer (some ⟨g, 0, none⟩), .int .i64 n, klV c] W fun e w' => e = .returned .nilIface ∧ WX g gm P (s.put n (enterT c)) lv w' ∧ Fr g gm lv lv W w' := by
 have hX := h.on (box_below W (.cells (klC c) 52))
 have HA := alive_any n hX
 have j1 : (0 : Int) ≤ n := by omega
 have j2 : (n : Int) < 3 := by omega
 rw [show aliveF n s = 0 by unfold aliveF; rw [if_pos ⟨j1, j2⟩, Int.toNat_natCast, if_neg (by omega)], errV_zero] at HA
 have cp := hX.phase n hn
 rw [hq] at cp
 have hY := hX.on (Below.refl _ _).drew
 have HY := hide hY
 obtain ⟨zt, hzt⟩ : ∃ z, z = eThread c := ⟨_, rfl⟩
 have HZT := hide hzt
 have HTH := hide (hY.setTh n hn zt (by rw [hzt]; rfl) (enterT c) (fun j hj => by rw [hzt]; exact eThread_at c j hj))
 have HFT := hide ((Fr.of (g := g) (gm := gm) lv (box_below W (.cells (klC c) 52))).trans ((Fr.of lv (Below.refl _ _).drew).trans (Fr.cells (g := g) (gm := gm) lv _ (4 + n * 29) zt.toList)))
 clear h hX hY hq hzt
 unfold klV klC
 unfold klC at HA cp HY HTH HFT
 go_enter Tryz.func14, Tryz.ntmps14
 go_wp2_with fail
 refine HA.mono ?_
 rintro e w' ⟨rfl, rfl⟩
 go_wp2_with fail
 obtain ⟨r, hr⟩ : ∃ r, r = W.heap.size := ⟨_, rfl⟩
 have hb : (W.alloc (.cells #[.int .u32 c.arch, .int .u32 c.nr, .int .u64 c.a0, .int .u64 c.a1, .int .u64 c.a2, .int .u64 c.a3] 52)).drew.heap[r]? = some (.cells #[.int .u32 c.arch, .int .u32 c.nr, .int .u64 c.a0, .int .u64 c.a1, .int .u64 c.a2, .int .u64 c.a3] 52 (0, 0)) := by rw [hr]; exact heap_alloc_new W _
 rw [← hr]
 obtain ⟨X, hXX⟩ : ∃ X, X = (W.alloc (.cells #[.int .u32 c.arch, .int .u32 c.nr, .int .u64 c.a0, .int .u64 c.a1, .int .u64 c.a2, .int .u64 c.a3] 52)) := ⟨_, rfl⟩
 rw [← hXX] at hb HY HTH HFT
 rw [← hXX]
 clear hXX hr HA cp
 have b0 := cell_of_row _ _ 0 _ _ _ hb
 have b1 := cell_of_row _ _ 1 _ _ _ hb
 have b2 := cell_of_row _ _ 2 _ _ _ hb
 have b3 := cell_of_row _ _ 3 _ _ _ hb
 have b4 := cell_of_row _ _ 4 _ _ _ hb
 have b5 := cell_of_row _ _ 5 _ _ _ hb
 simp only [List.getElem?_toArray, List.getElem?_cons_zero, List.getElem?_cons_succ] at b0 b1 b2 b3 b4 b5
 refine wp_region_any (by kernel_rfl) ?_
 change wpAny _ _ _ _ _ _ _ (World.drew _)
 refine Gl.wpAny_takeOf 0 (some 23) (.pointer (some ⟨g, 0, none⟩)) rfl rfl (by kernel_rfl) (by kernel_rfl) (by kernel_rfl) (fun _ _ _ h => h) (Or.inl ⟨by rfl, ?_⟩) ?_
 ·
  intro wx
  go_simp
 try simp only [Act.put, LT1, LT2, LT3]
 refine Gl.wpAny_takeOf 1 (some 24) (.int .i64 n) rfl rfl (by kernel_rfl) (by kernel_rfl) (by kernel_rfl) (fun _ _ _ h => h) (Or.inl ⟨by rfl, ?_⟩) ?_
 ·
  intro wx
  go_simp
 try simp only [Act.put, LT1, LT2, LT3]
 refine Gl.wpAny_takeOf 3 (some 26) (.pointer (some ⟨r, 2, none⟩)) rfl rfl (by kernel_rfl) (by kernel_rfl) (by kernel_rfl) (fun _ _ _ h => h) (Or.inl ⟨by rfl, ?_⟩) ?_
 ·
  intro wx
  go_simp
 try simp only [Act.put, LT1, LT2, LT3]
 refine Gl.wpAny_takeOf 6 (some 29) (.pointer (some ⟨g, 0, none⟩)) rfl rfl (by kernel_rfl) (by kernel_rfl) (by kernel_rfl) (fun _ _ _ h => h) (Or.inl ⟨by rfl, ?_⟩) ?_
 ·
  intro wx
  go_simp
 try simp only [Act.put, LT1, LT2, LT3]
 refine Gl.wpAny_takeOf 7 (some 30) (.pointer (some ⟨g, 4, none⟩)) rfl rfl (by kernel_rfl) (by kernel_rfl) (by kernel_rfl) (fun _ _ _ h => h) (Or.inl ⟨by rfl, ?_⟩) ?_
 ·
  intro wx
  go_simp
 try simp only [Act.put, LT1, LT2, LT3]
 refine wpAny_two (i := 2) (j := 4) (by kernel_rfl) rfl rfl rfl rfl (fun K hK => ?_) (fun K hK => ?_)
 ·
  go_simp
  refine hK _ _ ?_
  clear hK K
  try simp only [Act.put, LT1, LT2, LT3]
  refine Gl.wpAny_only (i := 4) (by kernel_rfl) rfl rfl (fun K hK => ?_)
  go_simp
  refine hK _ _ ?_
  clear hK K
  try simp only [Act.put, LT1, LT2, LT3]
  refine Gl.wpAny_only (i := 5) (by kernel_rfl) rfl rfl (fun K hK => ?_)
  refine wp_buildC 76 _ rfl (some 28) rfl zt (by rw [HZT.out]; first | kernel_rfl | rfl) ?_
  refine hK _ _ ?_
  clear hK K
  try simp only [Act.put, LT1, LT2, LT3]
  refine Gl.wpAny_only (i := 8) (by kernel_rfl) rfl rfl (fun K hK => ?_)
  go_simp
  refine hK _ _ ?_
  clear hK K
  try simp only [Act.put, LT1, LT2, LT3]
  refine Gl.wpAny_only (i := 9) (by kernel_rfl) rfl rfl (fun K hK => ?_)
  refine wp_store_mid (P := Tryz.prog) 76 _ _ rfl g (4 + n * 29) zt rfl rfl (by intro j hj; exact ⟨by rw [HY.out.cell _ (by have h29 : j < 29 := (by rw [HZT.out] at hj; exact hj); omega)]; rfl, HY.out.fro _⟩) (by rw [HZT.out]; exact size_thread) (by rw [HZT.out]; exact eThread_one c) ?_
  refine hK _ _ ?_
  clear hK K
  try simp only [Act.put]
  refine wpAny_done (by kernel_rfl) ?_ _
  go_wp2
  go_ret
  exact ⟨rfl, HTH.out, HFT.out⟩
 ·
  go_simp
  refine hK _ _ ?_
  clear hK K
  try simp only [Act.put, LT1, LT2, LT3]
  refine Gl.wpAny_only (i := 2) (by kernel_rfl) rfl rfl (fun K hK => ?_)
  go_simp
  refine hK _ _ ?_
  clear hK K
  try simp only [Act.put, LT1, LT2, LT3]
  refine Gl.wpAny_only (i := 5) (by kernel_rfl) rfl rfl (fun K hK => ?_)
  refine wp_buildC 76 _ rfl (some 28) rfl zt (by rw [HZT.out]; first | kernel_rfl | rfl) ?_
  refine hK _ _ ?_
  clear hK K
  try simp only [Act.put, LT1, LT2, LT3]
  refine Gl.wpAny_only (i := 8) (by kernel_rfl) rfl rfl (fun K hK => ?_)
  go_simp
  refine hK _ _ ?_
  clear hK K
  try simp only [Act.put, LT1, LT2, LT3]
  refine Gl.wpAny_only (i := 9) (by kernel_rfl) rfl rfl (fun K hK => ?_)
  refine wp_store_mid (P := Tryz.prog) 76 _ _ rfl g (4 + n * 29) zt rfl rfl (by intro j hj; exact ⟨by rw [HY.out.cell _ (by have h29 : j < 29 := (by rw [HZT.out] at hj; exact hj); omega)]; rfl, HY.out.fro _⟩) (by rw [HZT.out]; exact size_thread) (by rw [HZT.out]; exact eThread_one c) ?_
  refine hK _ _ ?_
  clear hK K
  try simp only [Act.put]
  refine wpAny_done (by kernel_rfl) ?_ _
  go_wp2
  go_ret
  exact ⟨rfl, HTH.out, HFT.out⟩
end Go.Proofs.YtklibmijiecbfaaGreat

/- Three operations that may come up. -/
namespace Go.Proofs.YtklibmijiecbfaaGreat
open Go.RowKit

theorem wpAny_three {P : Program} {md : Region.Mode} {ops : Array Oper} {Q : Exit → Act → World → Prop} {fuel : Nat} {listed : Array Bool} {a : Act} {w : World} {i j k : Nat} {o p q : Oper} (hr : Region.ready md ops listed = [i, j, k]) (ho : ops.toList[i]? = some o) (hg : o.guard = none) (hp : ops.toList[j]? = some p) (hgp : p.guard = none) (hq : ops.toList[k]? = some q) (hgq : q.guard = none)
  (h : ∀ K : Act → World → Prop, (∀ a w, wpAny P md ops Q fuel (listed.setIfInBounds i true) a w → K a w) → Oper.wp P o a w K Q)
  (h2 : ∀ K : Act → World → Prop, (∀ a w, wpAny P md ops Q fuel (listed.setIfInBounds j true) a w → K a w) → Oper.wp P p a w K Q)
  (h3 : ∀ K : Act → World → Prop, (∀ a w, wpAny P md ops Q fuel (listed.setIfInBounds k true) a w → K a w) → Oper.wp P q a w K Q) : wpAny P md ops Q (fuel + 1) listed a w := by
 refine wpAny_ready hr (by simp) ?_
 refine AllReady.cons (o := o) (by simpa using ho) (fun K hK => ?_) (AllReady.cons (o := p) (by simpa using hp) (fun K hK => ?_) (AllReady.cons (o := q) (by simpa using hq) (fun K hK => ?_) AllReady.nil))
 ·
  have hw : Region.wanted o (yielded ops a.tmps) = true := by simp [Region.wanted, hg]
  rw [if_pos hw]
  exact h K hK
 ·
  have hw : Region.wanted p (yielded ops a.tmps) = true := by simp [Region.wanted, hgp]
  rw [if_pos hw]
  exact h2 K hK
 ·
  have hw : Region.wanted q (yielded ops a.tmps) = true := by simp [Region.wanted, hgq]
  rw [if_pos hw]
  exact h3 K hK
end Go.Proofs.YtklibmijiecbfaaGreat
