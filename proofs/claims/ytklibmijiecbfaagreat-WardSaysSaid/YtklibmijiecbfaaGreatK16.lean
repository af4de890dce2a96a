/- A call ends: end, refuse, fail, do. -/
import Derived.Test.YtklibmijiecbfaaGreatK15
import Derived.Deep.RegionLaw
import Derived.Deep.AppendLies
namespace Go.Proofs.YtklibmijiecbfaaGreat
open Go.RowKit Mm

theorem info_entry : ∃ i, Tryz.prog.info? 70 = some i ∧ i.zero = some (.agg (entA 0 0 zeroKL zeroVS 0)) ∧ i.size = 21 ∧ i.bytes = 192 := by
 have hz : (Tryz.prog.info? 70).map (·.zero) = some (some (.agg (entA 0 0 zeroKL zeroVS 0))) := by kernel_rfl
 have hs : (Tryz.prog.info? 70).map (·.size) = some 21 := by kernel_rfl
 have hb : (Tryz.prog.info? 70).map (·.bytes) = some 192 := by kernel_rfl
 cases hq : Tryz.prog.info? 70 with
 | none => rw [hq] at hs; simp at hs
 | some i =>
  rw [hq] at hz hs hb
  simp at hz hs hb
  exact ⟨i, rfl, hz, hs, hb⟩
theorem size_thread : (Tryz.prog.info? 76).map (·.size) = some 29 := by kernel_rfl
structure EX (g gm : Nat) (P : PV) (s : WS) (lv : Value) (r2 : Nat) (c : Array Value) (X : World) : Prop where
 ward : WX g gm P s lv X
 box : X.heap[r2]? = some (.cells c 70 (0, 0))
 ne : r2 ≠ g ∧ r2 ≠ gm ∧ lv.ownBlock ≠ some r2
 bd : P.bd ≤ r2
theorem EX.on {g gm : Nat} {P : PV} {s : WS} {lv : Value} {r2 : Nat} {c : Array Value} {X Y : World} (h : EX g gm P s lv r2 c X) (hb : Below X.heap.size X Y) : EX g gm P s lv r2 c Y := ⟨h.ward.on hb, (hb.block _ (Array.getElem?_eq_some_iff.1 h.box).1).trans h.box, h.ne, h.bd⟩
theorem EX.memo {g gm : Nat} {P : PV} {s : WS} {lv : Value} {r2 : Nat} {c : Array Value} {X Y : World} (h : EX g gm P s lv r2 c X) {m : MS} (hm : IsM gm m Y) (hg : X.grownBy Y (some gm)) : EX g gm P { s with mem := m } lv r2 c Y :=
 ⟨h.ward.memo hm hg, (hg.block _ (Array.getElem?_eq_some_iff.1 h.box).1 (fun e => h.ne.2.1 (Option.some.inj e))).trans h.box, h.ne, h.bd⟩

theorem EX.setBox {g gm : Nat} {P : PV} {s : WS} {lv : Value} {r2 : Nat} {c : Array Value} {X : World} (h : EX g gm P s lv r2 c X) (c' : Array Value) : EX g gm P s lv r2 c' (X.setRow r2 c') :=
 ⟨h.ward.other (setRow_grown X r2 c') h.ne.1 h.ne.2.1 h.ne.2.2 h.bd, setRow_heap _ _ _ _ _ _ h.box, h.ne, h.bd⟩
theorem Fr.other {g gm : Nat} {lv : Value} {W X : World} (h : Fr g gm lv lv W X) {r : Nat} (c : Array Value) (hr : W.heap.size ≤ r) : Fr g gm lv lv W (X.setRow r c) :=
 ⟨h.os, h.tape, h.output, by rw [row_size]; exact h.size, fun k hk h1 h2 h3 => (row_heap X r k c (by omega)).trans (h.block k hk h1 h2 h3), h.new⟩
theorem Fr.logs {g gm : Nat} {P : PV} {s : WS} {lv : Value} {X w2 : World} {o : Obj} {gg n cap : Nat} (_h : WX g gm P s lv X) (v : Value) (hg : (X.alloc o).grownBy w2 lv.ownBlock) (hat : lv.ownBlock = some gg ∨ gg = X.heap.size + 1) : Fr g gm lv (.slice (some ⟨gg, 0, none⟩) n cap) X (w2.setCell ⟨g, 91, none⟩ v) :=
 ⟨hg.os, hg.tape, hg.output, Nat.le_trans (Nat.le_trans (box_below X o).size hg.size) (But.set g 91 w2 v).size, fun k hk h1 h2 h3 => ((Below.heap_setCell w2 ⟨g, 91, none⟩ v k h1).trans (hg.block k (by rw [World.size_alloc]; omega) (fun e => h3 e.symm))).trans ((box_below X o).block k hk), fun k hk => by
  simp only [Value.ownBlock, Option.some.injEq] at hk
  subst hk
  rcases hat with h | h
  ·
   exact .inl h
  ·
   exact .inr (by omega)⟩
theorem ent_one (kind thr : Int) (k : KL) (v : VS) (errno : Int) : ∀ u ∈ (entA kind thr k v errno).toList, u.oneCell' = true := by
 intro u hu
 simp only [entA, List.mem_cons, List.not_mem_nil, or_false] at hu
 rcases hu with rfl | rfl | rfl | rfl | rfl | rfl | rfl | rfl | rfl | rfl | rfl | rfl | rfl | rfl | rfl | rfl | rfl | rfl | rfl | rfl | rfl <;> rfl
theorem size_entry : (Tryz.prog.info? 70).map (·.size) = some 21 := by kernel_rfl
theorem ent_set7 {W : World} {r : Nat} {kind errno : Int} {v : VS} (n : Int) (k : KL) (h : W.heap[r]? = some (.cells (entA kind 0 zeroKL v errno) 70 (0, 0))) :
  ((((((W.setCell ⟨r, 1, none⟩ (.int .i64 n)).setCell ⟨r, 2, none⟩ (.int .u32 k.arch)).setCell ⟨r, 3, none⟩ (.int .u32 k.nr)).setCell ⟨r, 4, none⟩ (.int .u64 k.a0)).setCell ⟨r, 5, none⟩ (.int .u64 k.a1)).setCell ⟨r, 6, none⟩ (.int .u64 k.a2)).setCell ⟨r, 7, none⟩ (.int .u64 k.a3) = W.setRow r (entA kind n k v errno) := by
 rw [setCell_eq_setRow _ _ 1 _ _ _ _ h, setCell_eq_setRow _ _ 2 _ _ _ _ (setRow_heap _ _ _ _ _ _ h), setRow_again _ _ _ _ _ _ h, setCell_eq_setRow _ _ 3 _ _ _ _ (setRow_heap _ _ _ _ _ _ h), setRow_again _ _ _ _ _ _ h, setCell_eq_setRow _ _ 4 _ _ _ _ (setRow_heap _ _ _ _ _ _ h), setRow_again _ _ _ _ _ _ h,
  setCell_eq_setRow _ _ 5 _ _ _ _ (setRow_heap _ _ _ _ _ _ h), setRow_again _ _ _ _ _ _ h, setCell_eq_setRow _ _ 6 _ _ _ _ (setRow_heap _ _ _ _ _ _ h), setRow_again _ _ _ _ _ _ h, setCell_eq_setRow _ _ 7 _ _ _ _ (setRow_heap _ _ _ _ _ _ h), setRow_again _ _ _ _ _ _ h]
 simp only [entA, LT1, LT2, LT3]
theorem build_entry (kind thr : Int) (k : KL) (v : VS) (errno : Int) (w : World) : (Instr.buildSlice 63 1 #[(0, .agg (entA kind thr k v errno))]).run Tryz.prog w = .ok (.slice (some ⟨w.heap.size, 0, none⟩) 1 1) (w.alloc (.cells (entA kind thr k v errno) 70)) := by
 obtain ⟨inf, hi0, hz0, hz1, hz2⟩ := info_entry
 exact run_buildSlice w 63 70 1 _ _ inf _ Tryz.underlying63 hi0 hz0 (by rw [hz1]; decide) (by rw [hz1]; decide) (by rw [hz1]; kernel_rfl)
theorem wp_buildEntry {o : Oper} {a : Act} {w : World} {K : Act → World → Prop} {Q : Exit → Act → World → Prop} (x : Tmp) {c : Array Value} (ho : o.op = .buildSlice 63 1 #[(0, .tmp x)]) (hx : a.eval (.tmp x) = .agg c)
  (hb : ∀ W, (Instr.buildSlice 63 1 #[(0, .agg c)]).run Tryz.prog W = .ok (.slice (some ⟨W.heap.size, 0, none⟩) 1 1) (W.alloc (.cells c 70)))
  (h : K (a.put o.dst (.slice (some ⟨w.heap.size, 0, none⟩) 1 1)) (w.alloc (.cells c 70))) : o.wp Tryz.prog a w K Q := by
 have hp : (#[(0, Operand.tmp x)] : Array (Nat × Operand)).map (fun (i, x) => (i, a.eval x)) = #[(0, .agg c)] := by simp [hx]
 unfold Oper.wp execOp
 simp only [ho, Sem.run_bind, hp, hb, Result.andThen_ok]
 exact h
set_option maxHeartbeats 4000000 in
set_option maxRecDepth 100000 in
theorem wend_any {g gm : Nat} {P : PV} {s : WS} {lv : Value} {W : World} (n : Nat) (hn : n < 3) (kind : Nat) (errno : Int) (v : VS) (h : WX g gm P s lv W) (hlog : s.log.length ≤ 1000000) :
  Calls Tryz.prog 62 #[.pointer (some ⟨g, 0, none⟩), .int .i64 n, .agg (entA kind 0 zeroKL v errno)] W fun e w' => e = .returned (.tuple #[]) ∧ ∃ lv', WX g gm P (endS n kind errno v s) lv' w' ∧ Fr g gm lv lv' W w' := by
 have hgl := h.glt
 have hml := h.mlt
 have hll : ∀ k, lv.ownBlock = some k → k < W.heap.size := fun k hk => (h.own.lt k hk).2
 obtain ⟨t, ht⟩ : ∃ t, t = s.T n := ⟨_, rfl⟩
 obtain ⟨c0, hc0⟩ : ∃ c, c = entA kind 0 zeroKL v errno := ⟨_, rfl⟩
 obtain ⟨c1, hc1⟩ : ∃ c, c = entA kind n t.call v errno := ⟨_, rfl⟩
 have HE := hide (show EX g gm P s lv W.heap.size c0 (W.alloc (.cells c0 70)) from ⟨h.on (box_below _ _), heap_alloc_new _ _, ⟨by omega, by omega, fun e => by have := hll _ e; omega⟩, h.bd⟩)
 have HFr0 := hide (show Fr g gm lv lv W (W.alloc (.cells c0 70)) from Fr.of lv (box_below _ _))
 obtain ⟨r2, hr2⟩ : ∃ r, r = W.heap.size := ⟨_, rfl⟩
 have HT := hide ht
 have HC0 := hide hc0
 have HC1 := hide hc1
 have HBS := fun W => build_entry kind n t.call v errno W
 rw [← hc1] at HBS
 rw [← hc0]
 have HH := hide h
 have j1 : (0 : Int) ≤ n := by omega
 have j2 : (n : Int) < 3 := by omega
 clear h ht hll hgl hml hc0 hc1
 go_enter Tryz.func62, Tryz.ntmps62
 go_wp2
 rw [← hr2] at HE ⊢
 have HR2 := hide hr2
 clear hr2
 go_loopw [13] (fun I w' => ∃ i : Nat, i ≤ 4 ∧ I = .int .i64 i ∧ Hid (EX g gm P { s with mem := freeT t s.mem i } lv r2 c0 w') ∧ Hid (Fr g gm lv lv W w')) (fun I _ => 4 - (intOf I).toNat)
 case atStart => exact ⟨0, by omega, rfl, HE, HFr0⟩
 case round =>
  obtain ⟨i, hi, rfl, HC, HF⟩ := hrel
  clear HE HFr0
  by_cases hlt : i < 4
  ·
   have cs : wr.cell? ⟨g, 4 + n * 29 + 11 + i, none⟩ = some (.bool (t.sld i)) := by
    have := HC.out.ward.th n (11 + i) hn (by omega)
    rw [cellT_sld _ _ hlt] at this
    rw [HT.out, Nat.add_assoc]
    exact this
   have ca : wr.cell? ⟨g, 4 + n * 29 + 7 + i, none⟩ = some (.int .u64 (t.args i)) := by
    have := HC.out.ward.th n (7 + i) hn (by omega)
    rw [cellT_arg _ _ hlt] at this
    rw [HT.out, Nat.add_assoc]
    exact this
   have cp := HC.out.ward.ptr
   have k1 : (0 : Int) ≤ i := by omega
   have k2 : (i : Int) < 4 := by omega
   have hst : freeT t s.mem (i + 1) = if t.sld i = true then freeM (freeT t s.mem i) (t.args i) else freeT t s.mem i := rfl
   obtain ⟨a, ha⟩ : ∃ a, a = t.args i := ⟨_, rfl⟩
   rw [← ha] at ca hst
   cases hs : t.sld i with
   | true =>
    rw [hs] at cs hst
    rw [if_pos rfl] at hst
    have HST := hide hst
    replace HC := hide (HC.out.on (Below.refl _ wr).drew)
    replace HF := hide (HF.out.trans (Fr.of lv (Below.refl _ wr).drew))
    have HM := fun X (h : IsM gm (freeT t s.mem i) X) => mfree_any h a
    clear hst hs ha
    go_wp2_with fail
    go_region_law
     (first
      | (go_simp; go_at_call 91; refine (HM _ HC.out.ward.mem).mono ?_; rintro e w1 ⟨⟨v1, rfl⟩, hm1, hg1⟩; have HD := hide (HC.out.memo hm1 hg1); have HG := hide (HF.out.trans (Fr.grown lv hg1 (.inr rfl))); clear hm1 hg1))
    all_goals
     rw [← HST.out] at HD
     go_wp2
     go_round
     case rel => first | exact ⟨i + 1, by omega, by go_num, HD, HG⟩ | exact ⟨i + 1, by omega, by omega, HD⟩ | exact ⟨i + 1, by omega, by omega, HD, HG⟩
     case measure => simp [intOf]; omega
   | false =>
    rw [hs] at cs hst
    rw [if_neg (by decide)] at hst
    rw [← hst] at HC
    clear hst hs ha
    go_wp2
    go_round
    case rel => exact ⟨i + 1, by omega, by go_num, HC, HF⟩
    case measure => simp [intOf]; omega
  ·
   have hi4 : i = 4 := by omega
   rw [hi4] at HC
   have hge : ¬ (i : Int) < 4 := by omega
   clear hi4 hi hlt
   obtain ⟨s1, hs1⟩ : ∃ s1 : WS, s1 = { s with mem := freeT t s.mem 4 } := ⟨_, rfl⟩
   rw [← hs1] at HC
   have HS1 := hide hs1
   have hT1 : s1.T n = t := by rw [hs1, HT.out]
   have hL1 : s1.log = s.log := by rw [hs1]
   clear hs1
   have x1 := HC.out.ward.th n 1 hn (by omega)
   have x2 := HC.out.ward.th n 2 hn (by omega)
   have x3 := HC.out.ward.th n 3 hn (by omega)
   have x4 := HC.out.ward.th n 4 hn (by omega)
   have x5 := HC.out.ward.th n 5 hn (by omega)
   have x6 := HC.out.ward.th n 6 hn (by omega)
   rw [hT1] at x1 x2 x3 x4 x5 x6
   rw [(cellT_call t).1] at x1
   rw [(cellT_call t).2.1] at x2
   rw [(cellT_call t).2.2.1] at x3
   rw [(cellT_call t).2.2.2.1] at x4
   rw [(cellT_call t).2.2.2.2.1] at x5
   rw [(cellT_call t).2.2.2.2.2] at x6
   have hbox := HC.out.box
   rw [HC0.out] at hbox
   have b1 : wr.cell? ⟨r2, 1, none⟩ = some (.int .i64 0) := cell_of_row _ _ 1 _ _ _ hbox
   have b2 : wr.cell? ⟨r2, 2, none⟩ = some (.int .u32 0) := cell_of_row _ _ 2 _ _ _ hbox
   have b3 : wr.cell? ⟨r2, 3, none⟩ = some (.int .u32 0) := cell_of_row _ _ 3 _ _ _ hbox
   have b4 : wr.cell? ⟨r2, 4, none⟩ = some (.int .u64 0) := cell_of_row _ _ 4 _ _ _ hbox
   have b5 : wr.cell? ⟨r2, 5, none⟩ = some (.int .u64 0) := cell_of_row _ _ 5 _ _ _ hbox
   have b6 : wr.cell? ⟨r2, 6, none⟩ = some (.int .u64 0) := cell_of_row _ _ 6 _ _ _ hbox
   have b7 : wr.cell? ⟨r2, 7, none⟩ = some (.int .u64 0) := cell_of_row _ _ 7 _ _ _ hbox
   have f1 := frozen_of_row wr r2 1 _ _ hbox
   have f2 := frozen_of_row wr r2 2 _ _ hbox
   have f3 := frozen_of_row wr r2 3 _ _ hbox
   have f4 := frozen_of_row wr r2 4 _ _ hbox
   have f5 := frozen_of_row wr r2 5 _ _ hbox
   have f6 := frozen_of_row wr r2 6 _ _ hbox
   have f7 := frozen_of_row wr r2 7 _ _ hbox
   have hne : r2 ≠ g := HC.out.ne.1
   have hne2 : ¬ g = r2 := fun e => hne e.symm
   have hot : ∀ j, (wr.setCell ⟨r2, 1, none⟩ (.int .i64 n)).cell? ⟨g, j, none⟩ = wr.cell? ⟨g, j, none⟩ := fun j => cell_heap (Below.heap_setCell wr ⟨r2, 1, none⟩ _ g hne2) j
   have y1 := (hot (4 + n * 29 + 1)).trans x1
   have y2 := (hot (4 + n * 29 + 2)).trans x2
   have y3 := (hot (4 + n * 29 + 3)).trans x3
   have y4 := (hot (4 + n * 29 + 4)).trans x4
   have y5 := (hot (4 + n * 29 + 5)).trans x5
   have y6 := (hot (4 + n * 29 + 6)).trans x6
   have HSE := hide (ent_set7 n t.call hbox)
   have HX1 := hide (HC.out.setBox c1)
   have HF1 := hide (HF.out.other c1 (by rw [← HR2.out]; exact Nat.le_refl r2))
   clear hot hbox
   go_wp2_with fail
   go_region
   rw [HSE.out, ← HC1.out]
   clear x1 x2 x3 x4 x5 x6 y1 y2 y3 y4 y5 y6 b1 b2 b3 b4 b5 b6 b7 f1 f2 f3 f4 f5 f6 f7 hne hne2 HC HF HSE
   go_wp2_with fail
   refine wp_forget (fun X => Hid (EX g gm P s1 lv r2 c1 X) ∧ Hid (Fr g gm lv lv W X)) ⟨hide (HX1.out.on (Below.refl _ _).drew), hide (HF1.out.trans (Fr.of lv (Below.refl _ _).drew))⟩ ?_
   clear HX1 HF1
   rintro X ⟨HC, HF⟩
   have hs21 : c1.size = 21 := by rw [HC1.out]; rfl
   have HON := hide (show ∀ u ∈ c1.toList, u.oneCell' = true by rw [HC1.out]; exact ent_one _ _ _ _ _)
   have HSZ := hide (show c1.toList.length = 1 * 21 by rw [Array.length_toList, hs21])
   have hl2 : (loadVar 70 ⟨r2, 0, none⟩).run Tryz.prog X.drew = .ok (.agg c1) X.drew := run_loadVar_row (P := Tryz.prog) X.drew r2 70 70 c1 (0, 0) _ HC.out.box Tryz.underlying70 rfl (by rw [hs21]; exact size_entry)
   have hl1 : (Instr.loadAt 70 (.pointer (some ⟨r2, 0, none⟩))).run Tryz.prog X.drew = .ok (.agg c1) X.drew := by
    simp only [Instr.loadAt, Instr.sureAddr, Sem.run_bind, Sem.run_pure, Result.andThen_ok, hl2]
   have cl0 : X.cell? ⟨g, 91, none⟩ = some lv := HC.out.ward.logc
   have cl : X.drew.cell? ⟨g, 91, none⟩ = some lv := cl0
   have cl2 := keep_cell (box_below X (.cells c1 70)) cl0
   have cl3 : (X.alloc (.cells c1 70)).drew.cell? ⟨g, 91, none⟩ = some lv := cl2
   obtain ⟨inf, hi0, hz0, hz1, hz2⟩ := info_entry
   obtain ⟨L, hL⟩ : ∃ L, L = s1.log.length := ⟨_, rfl⟩
   have hLl : L ≤ 1000000 := by rw [hL, hL1]; exact hlog
   have HL := hide hL
   have HOW := hide (show X.ownsRow 0 70 21 lv L (flatE s1.log) by rw [hL]; exact HC.out.ward.own)
   have hgX : g < X.heap.size := HC.out.ward.glt
   have hbX : X.drew.heap[r2]? = some (.cells c1 70 (0, 0)) := HC.out.box
   have HOA := hide (show (X.alloc (.cells c1 70)).drew.ownsRow 0 70 21 lv L (flatE s1.log) from HOW.out.alloc _)
   have HNB := hide (show (X.alloc (.cells c1 70)).drew.heap[X.heap.size]? = some (.cells c1 70 (0, 0)) from heap_alloc_new X _)
   clear hL
   have hbA : (X.alloc (.cells c1 70)).drew.heap[r2]? = some (.cells c1 70 (0, 0)) := ((box_below X (.cells c1 70)).block r2 (Array.getElem?_eq_some_iff.1 HC.out.box).1).trans HC.out.box
   refine wp_region_any (by kernel_rfl) ?_
   change wpAny _ _ _ _ _ _ _ (World.drew _)
   refine Gl.wpAny_takeOf 0 (some 41) (.pointer (some ⟨g, 0, none⟩)) rfl rfl (by kernel_rfl) (by kernel_rfl) (by kernel_rfl) (fun _ _ _ h => h) (Or.inl ⟨by rfl, ?_⟩) ?_
   ·
    intro wx
    go_simp
   try simp only [Act.put, LT1, LT2, LT3]
   refine Gl.wpAny_takeOf 1 (some 42) (.pointer (some ⟨g, 0, none⟩)) rfl rfl (by kernel_rfl) (by kernel_rfl) (by kernel_rfl) (fun _ _ _ h => h) (Or.inl ⟨by rfl, ?_⟩) ?_
   ·
    intro wx
    go_simp
   try simp only [Act.put, LT1, LT2, LT3]
   refine Gl.wpAny_takeOf 2 (some 43) (.pointer (some ⟨g, 0, none⟩)) rfl rfl (by kernel_rfl) (by kernel_rfl) (by kernel_rfl) (fun _ _ _ h => h) (Or.inl ⟨by rfl, ?_⟩) ?_
   ·
    intro wx
    go_simp
   try simp only [Act.put, LT1, LT2, LT3]
   refine Gl.wpAny_takeOf 3 (some 44) (.pointer (some ⟨g, 91, none⟩)) rfl rfl (by kernel_rfl) (by kernel_rfl) (by kernel_rfl) (fun _ _ _ h => h) (Or.inl ⟨by rfl, ?_⟩) ?_
   ·
    intro wx
    go_simp
   try simp only [Act.put, LT1, LT2, LT3]
   refine wpAny_two (i := 4) (j := 5) (by kernel_rfl) rfl rfl rfl rfl (fun K hK => ?_) (fun K hK => ?_)
   ·
    go_simp
    refine hK _ _ ?_
    clear hK K
    try simp only [Act.put, LT1, LT2, LT3]
    refine Gl.wpAny_only (i := 5) (by kernel_rfl) rfl rfl (fun K hK => ?_)
    refine wp_load_row 70 (.tmp 5) rfl r2 rfl 70 c1 (0, 0) _ (by first | exact hbX | exact hbA) Tryz.underlying70 rfl (by rw [hs21]; exact size_entry) ?_
    refine hK _ _ ?_
    clear hK K
    try simp only [Act.put, LT1, LT2, LT3]
    refine Gl.wpAny_only (i := 6) (by kernel_rfl) rfl rfl (fun K hK => ?_)
    refine wp_buildEntry 46 rfl rfl HBS ?_
    refine hK _ _ ?_
    clear hK K
    try simp only [Act.put, LT1, LT2, LT3]
    refine Gl.wpAny_only (i := 7) (by kernel_rfl) rfl rfl (fun K hK => ?_)
    refine wp_append_lies _ _ _ _ rfl 0 70 inf _ 21 192 Tryz.underlying63 hi0 hz0 hz1 hz2 rfl (by omega) lv L (flatE s1.log) rfl HOA.out ⟨X.heap.size, 0, none⟩ 1 1 c1.toList rfl HSZ.out (World.news_of_block HNB.out) HON.out (by omega) (by simp only [maxLen]; omega) (by omega) (by omega) (X.heap.size + 1) (by show (X.alloc _).heap.size = _; rw [World.size_alloc]) ?_
    intro gg cap1 w2 hown1 hgrow hat hltt
    have HG := hide (And.intro hown1 (And.intro hgrow (And.intro hat hltt)))
    have cE : w2.cell? ⟨g, 91, none⟩ = some lv := (cell_heap (hgrow.block g (by show g < (X.alloc _).heap.size; rw [World.size_alloc]; exact Nat.lt_succ_of_lt hgX) (fun e => (HC.out.ward.nl g e.symm).1 rfl)) 91).trans cl3
    have fE : w2.frozen? ⟨g, 91, none⟩ = false := frozen_of_row _ _ 91 _ _ ((hgrow.block g (by show g < (X.alloc _).heap.size; rw [World.size_alloc]; exact Nat.lt_succ_of_lt hgX) (fun e => (HC.out.ward.nl g e.symm).1 rfl)).trans (((box_below X (.cells c1 70)).block g hgX).trans HC.out.ward.row))
    clear hown1 hgrow hat hltt
    refine hK _ _ ?_
    clear hK K
    try simp only [Act.put, LT1, LT2, LT3]
    refine Gl.wpAny_only (i := 8) (by kernel_rfl) rfl rfl (fun K hK => ?_)
    go_simp
    refine hK _ _ ?_
    clear hK K
    try simp only [Act.put, LT1, LT2, LT3]
    refine Gl.wpAny_only (i := 9) (by kernel_rfl) rfl rfl (fun K hK => ?_)
    go_simp
    refine hK _ _ ?_
    clear hK K
    try simp only [Act.put, LT1, LT2, LT3]
    refine Gl.wpAny_only (i := 10) (by kernel_rfl) rfl rfl (fun K hK => ?_)
    go_simp
    refine hK _ _ ?_
    clear hK K
    try simp only [Act.put]
    refine wpAny_done (by kernel_rfl) ?_ _
    have HWM := hide (WX.more (s := s1) (l := s1.log ++ [⟨kind, n, t.call, v, errno⟩]) (lv' := .slice (some ⟨gg, 0, none⟩) (L + 1) cap1) (HC.out.ward.on (box_below X (.cells c1 70)).drew) HG.out.2.1 (fun k hk => by
      simp only [Value.ownBlock, Option.some.injEq] at hk
      subst hk
      rcases HG.out.2.2.1 with h | h
      ·
       exact .inl h
      ·
       refine .inr ?_
       rw [h]
       show (X.alloc _).heap.size ≤ _
       rw [World.size_alloc]
       exact Nat.le_refl _) (by rw [List.length_append, List.length_singleton, flatE_snoc, ← HL.out, show (entE ⟨kind, n, t.call, v, errno⟩) = c1 from HC1.out.symm]; exact HG.out.1))
    have HFM := hide (HF.out.trans (Fr.logs (n := L + 1) (cap := cap1) HC.out.ward (.slice (some ⟨gg, 0, none⟩) (L + 1) cap1) (show (X.alloc (.cells c1 70)).grownBy w2 lv.ownBlock from ⟨HG.out.2.1.os, HG.out.2.1.tape, HG.out.2.1.output, HG.out.2.1.size, HG.out.2.1.block⟩) HG.out.2.2.1))
    have hb2 : (w2.setCell ⟨g, 91, none⟩ (.slice (some ⟨gg, 0, none⟩) (L + 1) cap1)).heap[r2]? = some (.cells c1 70 (0, 0)) := by
     rw [Below.heap_setCell w2 ⟨g, 91, none⟩ _ r2 HC.out.ne.1, HG.out.2.1.block r2 (by show r2 < (X.alloc _).heap.size; rw [World.size_alloc]; exact Nat.lt_succ_of_lt (Array.getElem?_eq_some_iff.1 HC.out.box).1) (fun e => HC.out.ne.2.2 e.symm)]
     exact hbA
    obtain ⟨lv', hlv'⟩ : ∃ lv', lv' = Value.slice (some ⟨gg, 0, none⟩) (L + 1) cap1 := ⟨_, rfl⟩
    rw [← hlv'] at HWM HFM hb2
    rw [← hlv']
    obtain ⟨Y, hY⟩ : ∃ Y, Y = w2.setCell ⟨g, 91, none⟩ lv' := ⟨_, rfl⟩
    rw [← hY] at HWM HFM hb2 ⊢
    have HY := HWM
    have HFY := HFM
    have HBY := hide hb2
    clear hY HWM HFM hb2 hlv' HG cE fE cl0 cl cl2 cl3 HOA HNB HOW hbX hbA HON HSZ HBS hs21 hi0 hz0 hz1 hz2
    obtain ⟨zt, hzt⟩ : ∃ z, z = zThread := ⟨_, rfl⟩
    have HZT := hide hzt
    have HTH := hide (HY.out.setTh n hn zt (by rw [hzt]; rfl) (idleT 0) (fun j hj => by rw [hzt]; exact zThread_at j hj))
    have HFT := hide (HFY.out.trans (Fr.cells (g := g) (gm := gm) lv' Y (4 + n * 29) zt.toList))
    have hkc : (Y.setCells g (4 + n * 29) zt.toList).cell? ⟨r2, 0, none⟩ = some (.int .i64 kind) := by
     refine (cell_heap (setCells_other g r2 (fun e => HC.out.ne.1 e) zt.toList (4 + n * 29) Y) 0).trans ?_
     rw [cell_of_row _ _ 0 _ _ _ HBY.out, HC1.out]
     rfl
    clear hzt
    have HDO := hide (show WS.put ({ s1 with log := s1.log ++ [⟨kind, n, t.call, v, errno⟩] } : WS) n (idleT (if kind = 3 then 6 else 0)) = endS n kind errno v s by
     unfold endS WS.put
     rw [HS1.out, ← HT.out])
    by_cases hk3 : kind = 3
    ·
     have k3 : (kind : Int) = 3 := by omega
     have b3 : ((kind : Int) == 3) = true := by simpa using k3
     have HPH := hide (HTH.out.setPhase n 6 hn)
     rw [if_pos hk3] at HDO
     have cph := HTH.out.phase n hn
     have fph := HTH.out.fro (4 + n * 29)
     clear hk3
     go_wp2_with (first | (refine wpList_buildTo rfl 76 _ rfl (some 52) rfl zt (by rw [HZT.out]; kernel_rfl) ?_) | (refine wpList_store_mid (P := Tryz.prog) rfl 76 _ _ rfl g (4 + n * 29) zt rfl rfl (by intro j hj; exact ⟨by rw [HY.out.cell _ (by have h29 : j < 29 := (by rw [HZT.out] at hj; exact hj); omega)]; rfl, HY.out.fro _⟩) (by rw [HZT.out]; exact size_thread) (by rw [HZT.out]; exact zThread_one) ?_))
     go_end0
     refine ⟨rfl, lv', ?_, HFT.out.trans (Fr.set lv' _ _ _)⟩
     rw [← HDO.out]
     have := HPH.out
     rwa [T_put, put_put, show ({ idleT 0 with phase := 6 } : TH) = idleT 6 from rfl] at this
    ·
     have k3 : ¬ (kind : Int) = 3 := by omega
     have b3 : ((kind : Int) == 3) = false := by simpa using k3
     rw [if_neg hk3] at HDO
     clear hk3
     go_wp2_with (first | (refine wpList_buildTo rfl 76 _ rfl (some 52) rfl zt (by rw [HZT.out]; kernel_rfl) ?_) | (refine wpList_store_mid (P := Tryz.prog) rfl 76 _ _ rfl g (4 + n * 29) zt rfl rfl (by intro j hj; exact ⟨by rw [HY.out.cell _ (by have h29 : j < 29 := (by rw [HZT.out] at hj; exact hj); omega)]; rfl, HY.out.fro _⟩) (by rw [HZT.out]; exact size_thread) (by rw [HZT.out]; exact zThread_one) ?_))
     go_end0
     refine ⟨rfl, lv', ?_, HFT.out⟩
     rw [← HDO.out]
     exact HTH.out
   ·
    refine wp_load_row 70 (.tmp 5) rfl r2 rfl 70 c1 (0, 0) _ (by first | exact hbX | exact hbA) Tryz.underlying70 rfl (by rw [hs21]; exact size_entry) ?_
    refine hK _ _ ?_
    clear hK K
    try simp only [Act.put, LT1, LT2, LT3]
    refine wpAny_two (i := 4) (j := 6) (by kernel_rfl) rfl rfl rfl rfl (fun K hK => ?_) (fun K hK => ?_)
    ·
     go_simp
     refine hK _ _ ?_
     clear hK K
     try simp only [Act.put, LT1, LT2, LT3]
     refine Gl.wpAny_only (i := 6) (by kernel_rfl) rfl rfl (fun K hK => ?_)
     refine wp_buildEntry 46 rfl rfl HBS ?_
     refine hK _ _ ?_
     clear hK K
     try simp only [Act.put, LT1, LT2, LT3]
     refine Gl.wpAny_only (i := 7) (by kernel_rfl) rfl rfl (fun K hK => ?_)
     refine wp_append_lies _ _ _ _ rfl 0 70 inf _ 21 192 Tryz.underlying63 hi0 hz0 hz1 hz2 rfl (by omega) lv L (flatE s1.log) rfl HOA.out ⟨X.heap.size, 0, none⟩ 1 1 c1.toList rfl HSZ.out (World.news_of_block HNB.out) HON.out (by omega) (by simp only [maxLen]; omega) (by omega) (by omega) (X.heap.size + 1) (by show (X.alloc _).heap.size = _; rw [World.size_alloc]) ?_
     intro gg cap1 w2 hown1 hgrow hat hltt
     have HG := hide (And.intro hown1 (And.intro hgrow (And.intro hat hltt)))
     have cE : w2.cell? ⟨g, 91, none⟩ = some lv := (cell_heap (hgrow.block g (by show g < (X.alloc _).heap.size; rw [World.size_alloc]; exact Nat.lt_succ_of_lt hgX) (fun e => (HC.out.ward.nl g e.symm).1 rfl)) 91).trans cl3
     have fE : w2.frozen? ⟨g, 91, none⟩ = false := frozen_of_row _ _ 91 _ _ ((hgrow.block g (by show g < (X.alloc _).heap.size; rw [World.size_alloc]; exact Nat.lt_succ_of_lt hgX) (fun e => (HC.out.ward.nl g e.symm).1 rfl)).trans (((box_below X (.cells c1 70)).block g hgX).trans HC.out.ward.row))
     clear hown1 hgrow hat hltt
     refine hK _ _ ?_
     clear hK K
     try simp only [Act.put, LT1, LT2, LT3]
     refine Gl.wpAny_only (i := 8) (by kernel_rfl) rfl rfl (fun K hK => ?_)
     go_simp
     refine hK _ _ ?_
     clear hK K
     try simp only [Act.put, LT1, LT2, LT3]
     refine Gl.wpAny_only (i := 9) (by kernel_rfl) rfl rfl (fun K hK => ?_)
     go_simp
     refine hK _ _ ?_
     clear hK K
     try simp only [Act.put, LT1, LT2, LT3]
     refine Gl.wpAny_only (i := 10) (by kernel_rfl) rfl rfl (fun K hK => ?_)
     go_simp
     refine hK _ _ ?_
     clear hK K
     try simp only [Act.put]
     refine wpAny_done (by kernel_rfl) ?_ _
     have HWM := hide (WX.more (s := s1) (l := s1.log ++ [⟨kind, n, t.call, v, errno⟩]) (lv' := .slice (some ⟨gg, 0, none⟩) (L + 1) cap1) (HC.out.ward.on (box_below X (.cells c1 70)).drew) HG.out.2.1 (fun k hk => by
       simp only [Value.ownBlock, Option.some.injEq] at hk
       subst hk
       rcases HG.out.2.2.1 with h | h
       ·
        exact .inl h
       ·
        refine .inr ?_
        rw [h]
        show (X.alloc _).heap.size ≤ _
        rw [World.size_alloc]
        exact Nat.le_refl _) (by rw [List.length_append, List.length_singleton, flatE_snoc, ← HL.out, show (entE ⟨kind, n, t.call, v, errno⟩) = c1 from HC1.out.symm]; exact HG.out.1))
     have HFM := hide (HF.out.trans (Fr.logs (n := L + 1) (cap := cap1) HC.out.ward (.slice (some ⟨gg, 0, none⟩) (L + 1) cap1) (show (X.alloc (.cells c1 70)).grownBy w2 lv.ownBlock from ⟨HG.out.2.1.os, HG.out.2.1.tape, HG.out.2.1.output, HG.out.2.1.size, HG.out.2.1.block⟩) HG.out.2.2.1))
     have hb2 : (w2.setCell ⟨g, 91, none⟩ (.slice (some ⟨gg, 0, none⟩) (L + 1) cap1)).heap[r2]? = some (.cells c1 70 (0, 0)) := by
      rw [Below.heap_setCell w2 ⟨g, 91, none⟩ _ r2 HC.out.ne.1, HG.out.2.1.block r2 (by show r2 < (X.alloc _).heap.size; rw [World.size_alloc]; exact Nat.lt_succ_of_lt (Array.getElem?_eq_some_iff.1 HC.out.box).1) (fun e => HC.out.ne.2.2 e.symm)]
      exact hbA
     obtain ⟨lv', hlv'⟩ : ∃ lv', lv' = Value.slice (some ⟨gg, 0, none⟩) (L + 1) cap1 := ⟨_, rfl⟩
     rw [← hlv'] at HWM HFM hb2
     rw [← hlv']
     obtain ⟨Y, hY⟩ : ∃ Y, Y = w2.setCell ⟨g, 91, none⟩ lv' := ⟨_, rfl⟩
     rw [← hY] at HWM HFM hb2 ⊢
     have HY := HWM
     have HFY := HFM
     have HBY := hide hb2
     clear hY HWM HFM hb2 hlv' HG cE fE cl0 cl cl2 cl3 HOA HNB HOW hbX hbA HON HSZ HBS hs21 hi0 hz0 hz1 hz2
     obtain ⟨zt, hzt⟩ : ∃ z, z = zThread := ⟨_, rfl⟩
     have HZT := hide hzt
     have HTH := hide (HY.out.setTh n hn zt (by rw [hzt]; rfl) (idleT 0) (fun j hj => by rw [hzt]; exact zThread_at j hj))
     have HFT := hide (HFY.out.trans (Fr.cells (g := g) (gm := gm) lv' Y (4 + n * 29) zt.toList))
     have hkc : (Y.setCells g (4 + n * 29) zt.toList).cell? ⟨r2, 0, none⟩ = some (.int .i64 kind) := by
      refine (cell_heap (setCells_other g r2 (fun e => HC.out.ne.1 e) zt.toList (4 + n * 29) Y) 0).trans ?_
      rw [cell_of_row _ _ 0 _ _ _ HBY.out, HC1.out]
      rfl
     clear hzt
     have HDO := hide (show WS.put ({ s1 with log := s1.log ++ [⟨kind, n, t.call, v, errno⟩] } : WS) n (idleT (if kind = 3 then 6 else 0)) = endS n kind errno v s by
      unfold endS WS.put
      rw [HS1.out, ← HT.out])
     by_cases hk3 : kind = 3
     ·
      have k3 : (kind : Int) = 3 := by omega
      have b3 : ((kind : Int) == 3) = true := by simpa using k3
      have HPH := hide (HTH.out.setPhase n 6 hn)
      rw [if_pos hk3] at HDO
      have cph := HTH.out.phase n hn
      have fph := HTH.out.fro (4 + n * 29)
      clear hk3
      go_wp2_with (first | (refine wpList_buildTo rfl 76 _ rfl (some 52) rfl zt (by rw [HZT.out]; kernel_rfl) ?_) | (refine wpList_store_mid (P := Tryz.prog) rfl 76 _ _ rfl g (4 + n * 29) zt rfl rfl (by intro j hj; exact ⟨by rw [HY.out.cell _ (by have h29 : j < 29 := (by rw [HZT.out] at hj; exact hj); omega)]; rfl, HY.out.fro _⟩) (by rw [HZT.out]; exact size_thread) (by rw [HZT.out]; exact zThread_one) ?_))
      go_end0
      refine ⟨rfl, lv', ?_, HFT.out.trans (Fr.set lv' _ _ _)⟩
      rw [← HDO.out]
      have := HPH.out
      rwa [T_put, put_put, show ({ idleT 0 with phase := 6 } : TH) = idleT 6 from rfl] at this
     ·
      have k3 : ¬ (kind : Int) = 3 := by omega
      have b3 : ((kind : Int) == 3) = false := by simpa using k3
      rw [if_neg hk3] at HDO
      clear hk3
      go_wp2_with (first | (refine wpList_buildTo rfl 76 _ rfl (some 52) rfl zt (by rw [HZT.out]; kernel_rfl) ?_) | (refine wpList_store_mid (P := Tryz.prog) rfl 76 _ _ rfl g (4 + n * 29) zt rfl rfl (by intro j hj; exact ⟨by rw [HY.out.cell _ (by have h29 : j < 29 := (by rw [HZT.out] at hj; exact hj); omega)]; rfl, HY.out.fro _⟩) (by rw [HZT.out]; exact size_thread) (by rw [HZT.out]; exact zThread_one) ?_))
      go_end0
      refine ⟨rfl, lv', ?_, HFT.out⟩
      rw [← HDO.out]
      exact HTH.out
    ·
     refine wp_buildEntry 46 rfl rfl HBS ?_
     refine hK _ _ ?_
     clear hK K
     try simp only [Act.put, LT1, LT2, LT3]
     refine Gl.wpAny_only (i := 4) (by kernel_rfl) rfl rfl (fun K hK => ?_)
     go_simp
     refine hK _ _ ?_
     clear hK K
     try simp only [Act.put, LT1, LT2, LT3]
     refine Gl.wpAny_only (i := 7) (by kernel_rfl) rfl rfl (fun K hK => ?_)
     refine wp_append_lies _ _ _ _ rfl 0 70 inf _ 21 192 Tryz.underlying63 hi0 hz0 hz1 hz2 rfl (by omega) lv L (flatE s1.log) rfl HOA.out ⟨X.heap.size, 0, none⟩ 1 1 c1.toList rfl HSZ.out (World.news_of_block HNB.out) HON.out (by omega) (by simp only [maxLen]; omega) (by omega) (by omega) (X.heap.size + 1) (by show (X.alloc _).heap.size = _; rw [World.size_alloc]) ?_
     intro gg cap1 w2 hown1 hgrow hat hltt
     have HG := hide (And.intro hown1 (And.intro hgrow (And.intro hat hltt)))
     have cE : w2.cell? ⟨g, 91, none⟩ = some lv := (cell_heap (hgrow.block g (by show g < (X.alloc _).heap.size; rw [World.size_alloc]; exact Nat.lt_succ_of_lt hgX) (fun e => (HC.out.ward.nl g e.symm).1 rfl)) 91).trans cl3
     have fE : w2.frozen? ⟨g, 91, none⟩ = false := frozen_of_row _ _ 91 _ _ ((hgrow.block g (by show g < (X.alloc _).heap.size; rw [World.size_alloc]; exact Nat.lt_succ_of_lt hgX) (fun e => (HC.out.ward.nl g e.symm).1 rfl)).trans (((box_below X (.cells c1 70)).block g hgX).trans HC.out.ward.row))
     clear hown1 hgrow hat hltt
     refine hK _ _ ?_
     clear hK K
     try simp only [Act.put, LT1, LT2, LT3]
     refine Gl.wpAny_only (i := 8) (by kernel_rfl) rfl rfl (fun K hK => ?_)
     go_simp
     refine hK _ _ ?_
     clear hK K
     try simp only [Act.put, LT1, LT2, LT3]
     refine Gl.wpAny_only (i := 9) (by kernel_rfl) rfl rfl (fun K hK => ?_)
     go_simp
     refine hK _ _ ?_
     clear hK K
     try simp only [Act.put, LT1, LT2, LT3]
     refine Gl.wpAny_only (i := 10) (by kernel_rfl) rfl rfl (fun K hK => ?_)
     go_simp
     refine hK _ _ ?_
     clear hK K
     try simp only [Act.put]
     refine wpAny_done (by kernel_rfl) ?_ _
     have HWM := hide (WX.more (s := s1) (l := s1.log ++ [⟨kind, n, t.call, v, errno⟩]) (lv' := .slice (some ⟨gg, 0, none⟩) (L + 1) cap1) (HC.out.ward.on (box_below X (.cells c1 70)).drew) HG.out.2.1 (fun k hk => by
       simp only [Value.ownBlock, Option.some.injEq] at hk
       subst hk
       rcases HG.out.2.2.1 with h | h
       ·
        exact .inl h
       ·
        refine .inr ?_
        rw [h]
        show (X.alloc _).heap.size ≤ _
        rw [World.size_alloc]
        exact Nat.le_refl _) (by rw [List.length_append, List.length_singleton, flatE_snoc, ← HL.out, show (entE ⟨kind, n, t.call, v, errno⟩) = c1 from HC1.out.symm]; exact HG.out.1))
     have HFM := hide (HF.out.trans (Fr.logs (n := L + 1) (cap := cap1) HC.out.ward (.slice (some ⟨gg, 0, none⟩) (L + 1) cap1) (show (X.alloc (.cells c1 70)).grownBy w2 lv.ownBlock from ⟨HG.out.2.1.os, HG.out.2.1.tape, HG.out.2.1.output, HG.out.2.1.size, HG.out.2.1.block⟩) HG.out.2.2.1))
     have hb2 : (w2.setCell ⟨g, 91, none⟩ (.slice (some ⟨gg, 0, none⟩) (L + 1) cap1)).heap[r2]? = some (.cells c1 70 (0, 0)) := by
      rw [Below.heap_setCell w2 ⟨g, 91, none⟩ _ r2 HC.out.ne.1, HG.out.2.1.block r2 (by show r2 < (X.alloc _).heap.size; rw [World.size_alloc]; exact Nat.lt_succ_of_lt (Array.getElem?_eq_some_iff.1 HC.out.box).1) (fun e => HC.out.ne.2.2 e.symm)]
      exact hbA
     obtain ⟨lv', hlv'⟩ : ∃ lv', lv' = Value.slice (some ⟨gg, 0, none⟩) (L + 1) cap1 := ⟨_, rfl⟩
     rw [← hlv'] at HWM HFM hb2
     rw [← hlv']
     obtain ⟨Y, hY⟩ : ∃ Y, Y = w2.setCell ⟨g, 91, none⟩ lv' := ⟨_, rfl⟩
     rw [← hY] at HWM HFM hb2 ⊢
     have HY := HWM
     have HFY := HFM
     have HBY := hide hb2
     clear hY HWM HFM hb2 hlv' HG cE fE cl0 cl cl2 cl3 HOA HNB HOW hbX hbA HON HSZ HBS hs21 hi0 hz0 hz1 hz2
     obtain ⟨zt, hzt⟩ : ∃ z, z = zThread := ⟨_, rfl⟩
     have HZT := hide hzt
     have HTH := hide (HY.out.setTh n hn zt (by rw [hzt]; rfl) (idleT 0) (fun j hj => by rw [hzt]; exact zThread_at j hj))
     have HFT := hide (HFY.out.trans (Fr.cells (g := g) (gm := gm) lv' Y (4 + n * 29) zt.toList))
     have hkc : (Y.setCells g (4 + n * 29) zt.toList).cell? ⟨r2, 0, none⟩ = some (.int .i64 kind) := by
      refine (cell_heap (setCells_other g r2 (fun e => HC.out.ne.1 e) zt.toList (4 + n * 29) Y) 0).trans ?_
      rw [cell_of_row _ _ 0 _ _ _ HBY.out, HC1.out]
      rfl
     clear hzt
     have HDO := hide (show WS.put ({ s1 with log := s1.log ++ [⟨kind, n, t.call, v, errno⟩] } : WS) n (idleT (if kind = 3 then 6 else 0)) = endS n kind errno v s by
      unfold endS WS.put
      rw [HS1.out, ← HT.out])
     by_cases hk3 : kind = 3
     ·
      have k3 : (kind : Int) = 3 := by omega
      have b3 : ((kind : Int) == 3) = true := by simpa using k3
      have HPH := hide (HTH.out.setPhase n 6 hn)
      rw [if_pos hk3] at HDO
      have cph := HTH.out.phase n hn
      have fph := HTH.out.fro (4 + n * 29)
      clear hk3
      go_wp2_with (first | (refine wpList_buildTo rfl 76 _ rfl (some 52) rfl zt (by rw [HZT.out]; kernel_rfl) ?_) | (refine wpList_store_mid (P := Tryz.prog) rfl 76 _ _ rfl g (4 + n * 29) zt rfl rfl (by intro j hj; exact ⟨by rw [HY.out.cell _ (by have h29 : j < 29 := (by rw [HZT.out] at hj; exact hj); omega)]; rfl, HY.out.fro _⟩) (by rw [HZT.out]; exact size_thread) (by rw [HZT.out]; exact zThread_one) ?_))
      go_end0
      refine ⟨rfl, lv', ?_, HFT.out.trans (Fr.set lv' _ _ _)⟩
      rw [← HDO.out]
      have := HPH.out
      rwa [T_put, put_put, show ({ idleT 0 with phase := 6 } : TH) = idleT 6 from rfl] at this
     ·
      have k3 : ¬ (kind : Int) = 3 := by omega
      have b3 : ((kind : Int) == 3) = false := by simpa using k3
      rw [if_neg hk3] at HDO
      clear hk3
      go_wp2_with (first | (refine wpList_buildTo rfl 76 _ rfl (some 52) rfl zt (by rw [HZT.out]; kernel_rfl) ?_) | (refine wpList_store_mid (P := Tryz.prog) rfl 76 _ _ rfl g (4 + n * 29) zt rfl rfl (by intro j hj; exact ⟨by rw [HY.out.cell _ (by have h29 : j < 29 := (by rw [HZT.out] at hj; exact hj); omega)]; rfl, HY.out.fro _⟩) (by rw [HZT.out]; exact size_thread) (by rw [HZT.out]; exact zThread_one) ?_))
      go_end0
      refine ⟨rfl, lv', ?_, HFT.out⟩
      rw [← HDO.out]
      exact HTH.out
end Go.Proofs.YtklibmijiecbfaaGreat

/- refuse, fail, do. -/
namespace Go.Proofs.YtklibmijiecbfaaGreat
open Go.RowKit Mm

def Goes (g gm : Nat) (P : PV) (s' : WS) (lv : Value) (W : World) (e : Ending) (w' : World) : Prop := e = .returned (.tuple #[]) ∧ ∃ lv', WX g gm P s' lv' w' ∧ Fr g gm lv lv' W w'
theorem Goes.from {g gm : Nat} {P : PV} {s' : WS} {lv : Value} {W X : World} {e : Ending} {w' : World} (hb : Below W.heap.size W X) (h : Goes g gm P s' lv X e w') : Goes g gm P s' lv W e w' := by
 obtain ⟨h1, lv', h2, h3⟩ := h
 exact ⟨h1, lv', h2, (Fr.of lv hb).trans h3⟩
theorem entA_refused (errno : Int) : entA ((2 : Nat) : Int) 0 zeroKL zeroVS errno = #[.int .i64 2, .int .i64 0, .int .u32 0, .int .u32 0, .int .u64 0, .int .u64 0, .int .u64 0, .int .u64 0, .string ⟨#[]⟩, .int .u32 0, .int .i64 0, .string ⟨#[]⟩, .int .u32 0, .int .i64 0, .string ⟨#[]⟩, .int .u32 0, .int .i64 0, .string ⟨#[]⟩, .int .u32 0, .int .i64 0, .int .i64 errno] := rfl
theorem entA_killed : entA ((3 : Nat) : Int) 0 zeroKL zeroVS 0 = #[.int .i64 3, .int .i64 0, .int .u32 0, .int .u32 0, .int .u64 0, .int .u64 0, .int .u64 0, .int .u64 0, .string ⟨#[]⟩, .int .u32 0, .int .i64 0, .string ⟨#[]⟩, .int .u32 0, .int .i64 0, .string ⟨#[]⟩, .int .u32 0, .int .i64 0, .string ⟨#[]⟩, .int .u32 0, .int .i64 0, .int .i64 0] := rfl
theorem refuse_any {g gm : Nat} {P : PV} {s : WS} {lv : Value} {W : World} (n : Nat) (hn : n < 3) (errno : Int) (h : WX g gm P s lv W) (hlog : s.log.length ≤ 1000000) :
  Calls Tryz.prog 60 #[.pointer (some ⟨g, 0, none⟩), .int .i64 n, .int .i64 errno] W (Goes g gm P (endS n 2 errno zeroVS s) lv W) := by
 have HE := wend_any n hn 2 errno zeroVS h hlog
 rw [entA_refused] at HE
 clear h
 go_enter Tryz.func60, Tryz.ntmps60
 go_wp2_with fail
 refine HE.mono ?_
 rintro e w' ⟨rfl, h1⟩
 go_wp2
 go_end0
 exact ⟨rfl, h1⟩
theorem fail_any {g gm : Nat} {P : PV} {s : WS} {lv : Value} {W : World} (n : Nat) (hn : n < 3) (f : Nat) (h : WX g gm P s lv W) (hlog : s.log.length ≤ 1000000) :
  Calls Tryz.prog 54 #[.pointer (some ⟨g, 0, none⟩), .int .i64 n, .iface 82 (.int .i64 (f : Int))] W (Goes g gm P (endS n 2 (errnoN f : Nat) zeroVS s) lv W) := by
 have HE := refuse_any n hn (errnoN f : Nat) h hlog
 have HO := errnoOf_any f W
 obtain ⟨k, hk⟩ : ∃ k : Int, k = (errnoN f : Nat) := ⟨_, rfl⟩
 rw [← hk] at HE HO
 rw [← hk]
 clear h hk
 go_enter Tryz.func54, Tryz.ntmps54
 go_wp2_with fail
 refine HO.mono ?_
 rintro e w' ⟨rfl, hw⟩
 rw [hw]
 clear hw HO
 go_wp2_with fail
 refine HE.mono ?_
 rintro e w' ⟨rfl, h1⟩
 go_wp2
 go_end0
 exact ⟨rfl, h1⟩
theorem do_any {g gm : Nat} {P : PV} {s : WS} {lv : Value} {W : World} (n : Nat) (hn : n < 3) (a : ACT) (ha : actF a = 0) (next : Nat) (h : WX g gm P s lv W) (hlog : s.log.length ≤ 1000000) :
  Calls Tryz.prog 51 #[.pointer (some ⟨g, 0, none⟩), .int .i64 n, actV a, .int .i64 next] W (Goes g gm P (doS n a next s) lv W) := by
 have j1 : (0 : Int) ≤ n := by omega
 have j2 : (n : Int) < 3 := by omega
 unfold actV
 obtain ⟨V, hV, hVb, hVs, hVc⟩ := one_box W #[.int .i64 a.kind, .int .i64 a.errno] 24
 have c0 := hVc 0
 have c1 := hVc 1
 simp only [List.getElem?_toArray, List.getElem?_cons_zero, List.getElem?_cons_succ] at c0 c1
 have hg := h.glt
 have HX := hide (h.on hVb)
 clear hVc hVs
 rcases act_cases ha with rfl | rfl | ⟨k, hk1, hk2, rfl⟩
 ·
  have HS := hide ((h.setPhase n next hn).on (box_below _ (.cells #[.int .i64 1, .int .i64 0] 24)))
  have cp := HX.out.phase n hn
  have fp := HX.out.fro (4 + n * 29)
  have HD := hide (show doS n ⟨1, 0⟩ next s = s.put n { s.T n with phase := next } from rfl)
  simp only at hV c0 c1 ⊢
  rw [HD.out]
  subst hV
  clear h
  go_enter Tryz.func51, Tryz.ntmps51
  go_wp2
  go_end0
  exact ⟨rfl, lv, HS.out, (Fr.set lv _ _ _).trans (Fr.of lv (box_below _ _))⟩
 ·
  have HE := wend_any n hn 3 0 zeroVS HX.out hlog
  rw [entA_killed] at HE
  have HD := hide (show doS n ⟨3, 0⟩ next s = endS n 3 0 zeroVS s from rfl)
  simp only at hV c0 c1 ⊢
  rw [HD.out]
  clear h
  go_enter Tryz.func51, Tryz.ntmps51
  go_wp2_with fail
  rw [← hV]
  refine HE.mono ?_
  rintro e w' ⟨rfl, h1⟩
  go_wp2
  go_end0
  exact Goes.from hVb ⟨rfl, h1⟩
 ·
  have HE := refuse_any n hn k HX.out hlog
  have HD := hide (show doS n ⟨2, (k : Int)⟩ next s = endS n 2 k zeroVS s from rfl)
  simp only at hV c0 c1 ⊢
  rw [HD.out]
  clear h
  go_enter Tryz.func51, Tryz.ntmps51
  go_wp2_with fail
  rw [← hV]
  refine HE.mono ?_
  rintro e w' ⟨rfl, h1⟩
  go_wp2
  go_end0
  exact Goes.from hVb ⟨rfl, h1⟩
end Go.Proofs.YtklibmijiecbfaaGreat

/- checkAlive, Phase, Map, Unmap, Put. -/
namespace Go.Proofs.YtklibmijiecbfaaGreat
open Go.RowKit Mm

def aliveF (n : Int) (s : WS) : Nat := if 0 ≤ n ∧ n < 3 then (if (s.T n.toNat).phase = 6 then 8 else 0) else 1
theorem alive_any {g gm : Nat} {P : PV} {s : WS} {lv : Value} {W : World} (n : Int) (h : WX g gm P s lv W) :
  Calls Tryz.prog 26 #[.pointer (some ⟨g, 0, none⟩), .int .i64 n] W fun e w' => e = .returned (errV (aliveF n s)) ∧ w' = W := by
 have HT := isThread_any n W
 unfold aliveF
 by_cases hn : 0 ≤ n ∧ n < 3
 ·
  rw [if_pos hn]
  rw [show (decide (0 ≤ n) && decide (n < 3)) = true by simp [hn]] at HT
  obtain ⟨k, rfl⟩ : ∃ k : Nat, n = k := ⟨n.toNat, by omega⟩
  have hk : k < 3 := by omega
  have j1 : (0 : Int) ≤ k := hn.1
  have j2 : (k : Int) < 3 := hn.2
  rw [Int.toNat_natCast]
  have cp := h.phase k hk
  obtain ⟨q, hq⟩ : ∃ q, q = (s.T k).phase := ⟨_, rfl⟩
  rw [← hq] at cp
  rw [← hq]
  clear h hq hn
  by_cases h6 : q = 6
  ·
   subst h6
   rw [if_pos rfl, errV_pos (by omega)]
   go_enter Tryz.func26, Tryz.ntmps26
   go_wp2_with fail
   refine HT.mono ?_
   rintro e w' ⟨rfl, rfl⟩
   go_wp2
   go_ret
   exact ⟨rfl, rfl⟩
  ·
   rw [if_neg h6, errV_zero]
   have h6' : ¬ ((q : Int) = 6) := by omega
   go_enter Tryz.func26, Tryz.ntmps26
   go_wp2_with fail
   refine HT.mono ?_
   rintro e w' ⟨rfl, rfl⟩
   go_wp2
   go_ret
   exact ⟨rfl, rfl⟩
 ·
  rw [if_neg hn, errV_pos (by omega)]
  rw [show (decide (0 ≤ n) && decide (n < 3)) = false by
   by_cases h0 : 0 ≤ n
   ·
    rw [decide_eq_false (p := n < 3) (fun h3 => hn ⟨h0, h3⟩), Bool.and_false]
   ·
    rw [decide_eq_false h0, Bool.false_and]] at HT
  clear h
  go_enter Tryz.func26, Tryz.ntmps26
  go_wp2_with fail
  refine HT.mono ?_
  rintro e w' ⟨rfl, rfl⟩
  go_wp2
  go_ret
  exact ⟨rfl, rfl⟩
theorem wphase_any {g gm : Nat} {P : PV} {s : WS} {lv : Value} {W : World} (n : Int) (h : WX g gm P s lv W) :
  Calls Tryz.prog 39 #[.pointer (some ⟨g, 0, none⟩), .int .i64 n] W fun e w' => e = .returned (.int .i64 (phaseW n s : Nat)) ∧ w' = W := by
 have HT := isThread_any n W
 unfold phaseW
 by_cases hn : 0 ≤ n ∧ n < 3
 ·
  rw [if_pos hn]
  rw [show (decide (0 ≤ n) && decide (n < 3)) = true by simp [hn]] at HT
  obtain ⟨k, rfl⟩ : ∃ k : Nat, n = k := ⟨n.toNat, by omega⟩
  have hk : k < 3 := by omega
  have j1 : (0 : Int) ≤ k := hn.1
  have j2 : (k : Int) < 3 := hn.2
  rw [Int.toNat_natCast]
  have cp := h.phase k hk
  obtain ⟨q, hq⟩ : ∃ q, q = (s.T k).phase := ⟨_, rfl⟩
  rw [← hq] at cp
  rw [← hq]
  clear h hq hn
  go_enter Tryz.func39, Tryz.ntmps39
  go_wp2_with fail
  refine HT.mono ?_
  rintro e w' ⟨rfl, rfl⟩
  go_wp2
  go_ret
  exact ⟨rfl, rfl⟩
 ·
  rw [if_neg hn]
  rw [show (decide (0 ≤ n) && decide (n < 3)) = false by
   by_cases h0 : 0 ≤ n
   ·
    rw [decide_eq_false (p := n < 3) (fun h3 => hn ⟨h0, h3⟩), Bool.and_false]
   ·
    rw [decide_eq_false h0, Bool.false_and]] at HT
  clear h
  go_enter Tryz.func39, Tryz.ntmps39
  go_wp2_with fail
  refine HT.mono ?_
  rintro e w' ⟨rfl, rfl⟩
  go_wp2
  go_ret
  exact ⟨rfl, rfl⟩
def GoesM (g gm : Nat) (P : PV) (s : WS) (r : MS × Nat) (lv : Value) (W : World) (e : Ending) (w' : World) : Prop := e = .returned (errV r.2) ∧ WX g gm P { s with mem := r.1 } lv w' ∧ Fr g gm lv lv W w'
theorem wmap_any {g gm : Nat} {P : PV} {s : WS} {lv : Value} {W : World} (n : Int) (b : Bool) (h : WX g gm P s lv W) :
  Calls Tryz.prog 13 #[.pointer (some ⟨g, 0, none⟩), .int .i64 n, .bool b] W (GoesM g gm P s (mapW n b s.mem) lv W) := by
 have HM := mmap_any h.mem n b
 have HX := hide h
 have cp := h.ptr
 obtain ⟨r, hr⟩ : ∃ r, r = mapW n b s.mem := ⟨_, rfl⟩
 rw [← hr] at HM
 rw [← hr]
 obtain ⟨v, hv⟩ : ∃ v, v = errV r.2 := ⟨_, rfl⟩
 unfold GoesM
 rw [← hv] at HM
 rw [← hv]
 clear h hr hv
 go_enter Tryz.func13, Tryz.ntmps13
 go_wp2_with fail
 refine HM.mono ?_
 rintro e w' ⟨rfl, h1, h2⟩
 go_wp2
 go_ret
 exact ⟨rfl, HX.out.memo h1 h2, Fr.grown lv h2 (.inr rfl)⟩
theorem wunmap_any {g gm : Nat} {P : PV} {s : WS} {lv : Value} {W : World} (n : Int) (h : WX g gm P s lv W) :
  Calls Tryz.prog 33 #[.pointer (some ⟨g, 0, none⟩), .int .i64 n] W (GoesM g gm P s (unmapW n s.mem) lv W) := by
 have HM := munmap_any h.mem n
 have HX := hide h
 have cp := h.ptr
 obtain ⟨r, hr⟩ : ∃ r, r = unmapW n s.mem := ⟨_, rfl⟩
 rw [← hr] at HM
 rw [← hr]
 obtain ⟨v, hv⟩ : ∃ v, v = errV r.2 := ⟨_, rfl⟩
 unfold GoesM
 rw [← hv] at HM
 rw [← hv]
 clear h hr hv
 go_enter Tryz.func33, Tryz.ntmps33
 go_wp2_with fail
 refine HM.mono ?_
 rintro e w' ⟨rfl, h1, h2⟩
 go_wp2
 go_ret
 exact ⟨rfl, HX.out.memo h1 h2, Fr.grown lv h2 (.inr rfl)⟩
theorem wput_any {g gm : Nat} {P : PV} {s : WS} {lv : Value} {W : World} (a : Nat) (l : ByteArray) (ha : a < 18446744073709551616) (hl : l.size ≤ 1000) (h : WX g gm P s lv W) :
  Calls Tryz.prog 35 #[.pointer (some ⟨g, 0, none⟩), .int .u64 a, .string l] W (GoesM g gm P s (putW a l s.mem) lv W) := by
 have HM := mput_any h.mem a l ha hl
 have HX := hide h
 have cp := h.ptr
 obtain ⟨r, hr⟩ : ∃ r, r = putW a l s.mem := ⟨_, rfl⟩
 rw [← hr] at HM
 rw [← hr]
 obtain ⟨v, hv⟩ : ∃ v, v = errV r.2 := ⟨_, rfl⟩
 unfold GoesM
 rw [← hv] at HM
 rw [← hv]
 clear h hr hv
 go_enter Tryz.func35, Tryz.ntmps35
 go_wp2_with fail
 refine HM.mono ?_
 rintro e w' ⟨rfl, h1, h2⟩
 go_wp2
 go_ret
 exact ⟨rfl, HX.out.memo h1 h2, Fr.grown lv h2 (.inr rfl)⟩
end Go.Proofs.YtklibmijiecbfaaGreat

/- Enter. -/
namespace Go.Proofs.YtklibmijiecbfaaGreat
open Go.RowKit Mm

theorem wenter_err {g gm : Nat} {P : PV} {s : WS} {lv : Value} {W : World} (n : Int) (c : KL) (hf : aliveF n s ≠ 0) (h : WX g gm P s lv W) :
  Calls Tryz.prog 14 #[.pointer (some ⟨g, 0, none⟩), .int .i64 n, klV c] W fun e w' => e = .returned (errV (aliveF n s)) ∧ Below W.heap.size W w' := by
 have HA := alive_any n (h.on (box_below W (.cells (klC c) 52)))
 rw [errV_pos hf] at HA
 rw [errV_pos hf]
 obtain ⟨f, hf'⟩ : ∃ f, f = aliveF n s := ⟨_, rfl⟩
 rw [← hf'] at HA
 rw [← hf']
 clear h hf' hf
 unfold klV klC
 unfold klC at HA
 go_enter Tryz.func14, Tryz.ntmps14
 go_wp2_with fail
 refine HA.mono ?_
 rintro e w' ⟨rfl, rfl⟩
 go_wp2
 go_ret
 exact ⟨rfl, box_below _ _⟩
theorem wenter_busy {g gm : Nat} {P : PV} {s : WS} {lv : Value} {W : World} (n : Nat) (hn : n < 3) (c : KL) (hq : (s.T n).phase ≠ 0) (hq6 : (s.T n).phase ≠ 6) (h : WX g gm P s lv W) :
  Calls Tryz.prog 14 #[.pointer (some ⟨g, 0, none⟩), .int .i64 n, klV c] W fun e w' => e = .returned (errV 7) ∧ Below W.heap.size W w' := by
 have hX := h.on (box_below W (.cells (klC c) 52))
 have HA := alive_any n hX
 have j1 : (0 : Int) ≤ n := by omega
 have j2 : (n : Int) < 3 := by omega
 rw [show aliveF n s = 0 by unfold aliveF; rw [if_pos ⟨j1, j2⟩, Int.toNat_natCast, if_neg hq6], errV_zero] at HA
 rw [errV_pos (by omega)]
 have cp := hX.phase n hn
 obtain ⟨q, hqq⟩ : ∃ q, q = (s.T n).phase := ⟨_, rfl⟩
 rw [← hqq] at cp hq
 have hq' : ¬ ((q : Int) = 0) := by omega
 clear h hqq hq6 hX
 unfold klV klC
 unfold klC at HA cp
 go_enter Tryz.func14, Tryz.ntmps14
 go_wp2_with fail
 refine HA.mono ?_
 rintro e w' ⟨rfl, rfl⟩
 go_wp2
 go_ret
 exact ⟨rfl, box_below _ _⟩
def eThread (c : KL) : Array Value := #[.int .i64 1, .int .u32 c.arch, .int .u32 c.nr, .int .u64 c.a0, .int .u64 c.a1, .int .u64 c.a2, .int .u64 c.a3, .int .u64 c.a0, .int .u64 c.a1, .int .u64 c.a2, .int .u64 c.a3, .bool false, .bool false, .bool false, .bool false, .int .i64 0, .string ⟨#[]⟩, .string ⟨#[]⟩, .int .u32 0, .int .i64 0, .string ⟨#[]⟩, .int .u32 0, .int .i64 0, .string ⟨#[]⟩, .int .u32 0, .int .i64 0, .string ⟨#[]⟩, .int .u32 0, .int .i64 0]
theorem eThread_at (c : KL) : ∀ j, j < 29 → (eThread c).toList.getD j undef = cellT (enterT c) j := by
 intro j hj
 match j, hj with
 | 0, _ => rfl
 | 1, _ => rfl
 | 2, _ => rfl
 | 3, _ => rfl
 | 4, _ => rfl
 | 5, _ => rfl
 | 6, _ => rfl
 | 7, _ => rfl
 | 8, _ => rfl
 | 9, _ => rfl
 | 10, _ => rfl
 | 11, _ => rfl
 | 12, _ => rfl
 | 13, _ => rfl
 | 14, _ => rfl
 | 15, _ => rfl
 | 16, _ => rfl
 | 17, _ => rfl
 | 18, _ => rfl
 | 19, _ => rfl
 | 20, _ => rfl
 | 21, _ => rfl
 | 22, _ => rfl
 | 23, _ => rfl
 | 24, _ => rfl
 | 25, _ => rfl
 | 26, _ => rfl
 | 27, _ => rfl
 | 28, _ => rfl
 | j + 29, hj => omega
theorem eThread_one (c : KL) : (eThread c).all (·.oneCell') = true := by simp [eThread, Value.oneCell']
theorem wp_buildC {o : Oper} {a : Act} {w : World} {K : Act → World → Prop} {Q : Exit → Act → World → Prop} (t : TypeId) (parts : Array (Nat × Operand)) (ho : o.op = .build t parts) (d : Option Tmp) (hd : o.dst = d) (cells : Array Value)
  (hf : Tryz.prog.built t (parts.map fun (i, x) => (i, a.eval x)).toList = some cells) (h : K (a.put d (.agg cells)) w) : o.wp Tryz.prog a w K Q := by
 subst hd
 refine wp_build t parts ho (by rw [hf]; rfl) ?_
 rw [hf]
 exact h
set_option maxHeartbeats 2000000 in
set_option maxRecDepth 20000 in
theorem wenter_ok {g gm : Nat} {P : PV} {s : WS} {lv : Value} {W : World} (n : Nat) (hn : n < 3) (c : KL) (hq : (s.T n).phase = 0) (h : WX g gm P s lv W) :
  Calls Tryz.prog 14 #[.pointer (some ⟨g, 0, none⟩), .int .i64 n, klV c] W fun e w' => e = .returned .nilIface ∧ WX g gm P (s.put n (enterT c)) lv w' ∧ Fr g gm lv lv W w' := by
 have hX := h.on (box_below W (.cells (klC c) 52))
 have HA := alive_any n hX
 have j1 : (0 : Int) ≤ n := by omega
 have j2 : (n : Int) < 3 := by omega
 rw [show aliveF n s = 0 by unfold aliveF; rw [if_pos ⟨j1, j2⟩, Int.toNat_natCast, if_neg (by omega)], errV_zero] at HA
 have cp := hX.phase n hn
 rw [hq] at cp
 have hY := hX.on (Below.refl _ _).drew
 have HY := hide hY
 obtain ⟨zt, hzt⟩ : ∃ z, z = eThread c := ⟨_, rfl⟩
 have HZT := hide hzt
 have HTH := hide (hY.setTh n hn zt (by rw [hzt]; rfl) (enterT c) (fun j hj => by rw [hzt]; exact eThread_at c j hj))
 have HFT := hide ((Fr.of (g := g) (gm := gm) lv (box_below W (.cells (klC c) 52))).trans ((Fr.of lv (Below.refl _ _).drew).trans (Fr.cells (g := g) (gm := gm) lv _ (4 + n * 29) zt.toList)))
 clear h hX hY hq hzt
 unfold klV klC
 unfold klC at HA cp HY HTH HFT
 go_enter Tryz.func14, Tryz.ntmps14
 go_wp2_with fail
 refine HA.mono ?_
 rintro e w' ⟨rfl, rfl⟩
 go_wp2_with fail
 obtain ⟨r, hr⟩ : ∃ r, r = W.heap.size := ⟨_, rfl⟩
 have hb : (W.alloc (.cells #[.int .u32 c.arch, .int .u32 c.nr, .int .u64 c.a0, .int .u64 c.a1, .int .u64 c.a2, .int .u64 c.a3] 52)).drew.heap[r]? = some (.cells #[.int .u32 c.arch, .int .u32 c.nr, .int .u64 c.a0, .int .u64 c.a1, .int .u64 c.a2, .int .u64 c.a3] 52 (0, 0)) := by rw [hr]; exact heap_alloc_new W _
 rw [← hr]
 obtain ⟨X, hXX⟩ : ∃ X, X = (W.alloc (.cells #[.int .u32 c.arch, .int .u32 c.nr, .int .u64 c.a0, .int .u64 c.a1, .int .u64 c.a2, .int .u64 c.a3] 52)) := ⟨_, rfl⟩
 rw [← hXX] at hb HY HTH HFT
 rw [← hXX]
 clear hXX hr HA cp
 have b0 := cell_of_row _ _ 0 _ _ _ hb
 have b1 := cell_of_row _ _ 1 _ _ _ hb
 have b2 := cell_of_row _ _ 2 _ _ _ hb
 have b3 := cell_of_row _ _ 3 _ _ _ hb
 have b4 := cell_of_row _ _ 4 _ _ _ hb
 have b5 := cell_of_row _ _ 5 _ _ _ hb
 simp only [List.getElem?_toArray, List.getElem?_cons_zero, List.getElem?_cons_succ] at b0 b1 b2 b3 b4 b5
 refine wp_region_any (by kernel_rfl) ?_
 change wpAny _ _ _ _ _ _ _ (World.drew _)
 refine Gl.wpAny_takeOf 0 (some 23) (.pointer (some ⟨g, 0, none⟩)) rfl rfl (by kernel_rfl) (by kernel_rfl) (by kernel_rfl) (fun _ _ _ h => h) (Or.inl ⟨by rfl, ?_⟩) ?_
 ·
  intro wx
  go_simp
 try simp only [Act.put, LT1, LT2, LT3]
 refine Gl.wpAny_takeOf 1 (some 24) (.int .i64 n) rfl rfl (by kernel_rfl) (by kernel_rfl) (by kernel_rfl) (fun _ _ _ h => h) (Or.inl ⟨by rfl, ?_⟩) ?_
 ·
  intro wx
  go_simp
 try simp only [Act.put, LT1, LT2, LT3]
 refine Gl.wpAny_takeOf 3 (some 26) (.pointer (some ⟨r, 2, none⟩)) rfl rfl (by kernel_rfl) (by kernel_rfl) (by kernel_rfl) (fun _ _ _ h => h) (Or.inl ⟨by rfl, ?_⟩) ?_
 ·
  intro wx
  go_simp
 try simp only [Act.put, LT1, LT2, LT3]
 refine Gl.wpAny_takeOf 6 (some 29) (.pointer (some ⟨g, 0, none⟩)) rfl rfl (by kernel_rfl) (by kernel_rfl) (by kernel_rfl) (fun _ _ _ h => h) (Or.inl ⟨by rfl, ?_⟩) ?_
 ·
  intro wx
  go_simp
 try simp only [Act.put, LT1, LT2, LT3]
 refine Gl.wpAny_takeOf 7 (some 30) (.pointer (some ⟨g, 4, none⟩)) rfl rfl (by kernel_rfl) (by kernel_rfl) (by kernel_rfl) (fun _ _ _ h => h) (Or.inl ⟨by rfl, ?_⟩) ?_
 ·
  intro wx
  go_simp
 try simp only [Act.put, LT1, LT2, LT3]
 refine wpAny_two (i := 2) (j := 4) (by kernel_rfl) rfl rfl rfl rfl (fun K hK => ?_) (fun K hK => ?_)
 ·
  go_simp
  refine hK _ _ ?_
  clear hK K
  try simp only [Act.put, LT1, LT2, LT3]
  refine Gl.wpAny_only (i := 4) (by kernel_rfl) rfl rfl (fun K hK => ?_)
  go_simp
  refine hK _ _ ?_
  clear hK K
  try simp only [Act.put, LT1, LT2, LT3]
  refine Gl.wpAny_only (i := 5) (by kernel_rfl) rfl rfl (fun K hK => ?_)
  refine wp_buildC 76 _ rfl (some 28) rfl zt (by rw [HZT.out]; first | kernel_rfl | rfl) ?_
  refine hK _ _ ?_
  clear hK K
  try simp only [Act.put, LT1, LT2, LT3]
  refine Gl.wpAny_only (i := 8) (by kernel_rfl) rfl rfl (fun K hK => ?_)
  go_simp
  refine hK _ _ ?_
  clear hK K
  try simp only [Act.put, LT1, LT2, LT3]
  refine Gl.wpAny_only (i := 9) (by kernel_rfl) rfl rfl (fun K hK => ?_)
  refine wp_store_mid (P := Tryz.prog) 76 _ _ rfl g (4 + n * 29) zt rfl rfl (by intro j hj; exact ⟨by rw [HY.out.cell _ (by have h29 : j < 29 := (by rw [HZT.out] at hj; exact hj); omega)]; rfl, HY.out.fro _⟩) (by rw [HZT.out]; exact size_thread) (by rw [HZT.out]; exact eThread_one c) ?_
  refine hK _ _ ?_
  clear hK K
  try simp only [Act.put]
  refine wpAny_done (by kernel_rfl) ?_ _
  go_wp2
  go_ret
  exact ⟨rfl, HTH.out, HFT.out⟩
 ·
  go_simp
  refine hK _ _ ?_
  clear hK K
  try simp only [Act.put, LT1, LT2, LT3]
  refine Gl.wpAny_only (i := 2) (by kernel_rfl) rfl rfl (fun K hK => ?_)
  go_simp
  refine hK _ _ ?_
  clear hK K
  try simp only [Act.put, LT1, LT2, LT3]
  refine Gl.wpAny_only (i := 5) (by kernel_rfl) rfl rfl (fun K hK => ?_)
  refine wp_buildC 76 _ rfl (some 28) rfl zt (by rw [HZT.out]; first | kernel_rfl | rfl) ?_
  refine hK _ _ ?_
  clear hK K
  try simp only [Act.put, LT1, LT2, LT3]
  refine Gl.wpAny_only (i := 8) (by kernel_rfl) rfl rfl (fun K hK => ?_)
  go_simp
  refine hK _ _ ?_
  clear hK K
  try simp only [Act.put, LT1, LT2, LT3]
  refine Gl.wpAny_only (i := 9) (by kernel_rfl) rfl rfl (fun K hK => ?_)
  refine wp_store_mid (P := Tryz.prog) 76 _ _ rfl g (4 + n * 29) zt rfl rfl (by intro j hj; exact ⟨by rw [HY.out.cell _ (by have h29 : j < 29 := (by rw [HZT.out] at hj; exact hj); omega)]; rfl, HY.out.fro _⟩) (by rw [HZT.out]; exact size_thread) (by rw [HZT.out]; exact eThread_one c) ?_
  refine hK _ _ ?_
  clear hK K
  try simp only [Act.put]
  refine wpAny_done (by kernel_rfl) ?_ _
  go_wp2
  go_ret
  exact ⟨rfl, HTH.out, HFT.out⟩
end Go.Proofs.YtklibmijiecbfaaGreat

/- Three operations that may come up. -/
namespace Go.Proofs.YtklibmijiecbfaaGreat
open Go.RowKit

theorem wpAny_three {P : Program} {md : Region.Mode} {ops : Array Oper} {Q : Exit → Act → World → Prop} {fuel : Nat} {listed : Array Bool} {a : Act} {w : World} {i j k : Nat} {o p q : Oper} (hr : Region.ready md ops listed = [i, j, k]) (ho : ops.toList[i]? = some o) (hg : o.guard = none) (hp : ops.toList[j]? = some p) (hgp : p.guard = none) (hq : ops.toList[k]? = some q) (hgq : q.guard = none)
  (h : ∀ K : Act → World → Prop, (∀ a w, wpAny P md ops Q fuel (listed.setIfInBounds i true) a w → K a w) → Oper.wp P o a w K Q)
  (h2 : ∀ K : Act → World → Prop, (∀ a w, wpAny P md ops Q fuel (listed.setIfInBounds j true) a w → K a w) → Oper.wp P p a w K Q)
  (h3 : ∀ K : Act → World → Prop, (∀ a w, wpAny P md ops Q fuel (listed.setIfInBounds k true) a w → K a w) → Oper.wp P q a w K Q) : wpAny P md ops Q (fuel + 1) listed a w := by
 refine wpAny_ready hr (by simp) ?_
 refine AllReady.cons (o := o) (by simpa using ho) (fun K hK => ?_) (AllReady.cons (o := p) (by simpa using hp) (fun K hK => ?_) (AllReady.cons (o := q) (by simpa using hq) (fun K hK => ?_) AllReady.nil))
 ·
  have hw : Region.wanted o (yielded ops a.tmps) = true := by simp [Region.wanted, hg]
  rw [if_pos hw]
  exact h K hK
 ·
  have hw : Region.wanted p (yielded ops a.tmps) = true := by simp [Region.wanted, hgp]
  rw [if_pos hw]
  exact h2 K hK
 ·
  have hw : Region.wanted q (yielded ops a.tmps) = true := by simp [Region.wanted, hgq]
  rw [if_pos hw]
  exact h3 K hK
end Go.Proofs.YtklibmijiecbfaaGreat
