/- Own: a policy in its own memory, a mark behind each rule's conds. -/
import Derived.Test.YtphkhfeofoadcabK6
import Derived.Laws.AppendOwnNone
import Derived.Test.YtphkhfeofoadcabK3
namespace Go.Proofs.Ytphkhfeofoadcab
open Go.RowKit Go.Sort

theorem flatC_one (cs : List CD) : ∀ u ∈ flatC cs, u.oneCell' = true := fun u h => by
  unfold flatC at h
  obtain ⟨c, _, hu⟩ := List.mem_flatMap.1 h
  simp only [condC, List.mem_cons, List.not_mem_nil, or_false] at hu
  rcases hu with rfl | rfl | rfl | rfl | rfl | rfl | rfl | rfl | rfl <;> rfl
theorem add_at (b off j : Nat) : (⟨b, off, none⟩ : Addr).add j = ⟨b, off + j, none⟩ := by unfold Addr.add; split <;> simp_all
theorem flatC_cells {oa : Option Addr} {cs : List CD} {W : World} (h : IsConds oa cs W) {ad : Addr} (ha : oa = some ad) : ∀ j u, (flatC cs)[j]? = some u → W.cell? (ad.add j) = some u := fun j u hu => by
  have hj : j < cs.length * 9 := by rw [← flatC_len cs]; exact (List.getElem?_eq_some_iff.1 hu).1
  obtain ⟨b, off, h1, _, h3⟩ := h.lie (by omega)
  rw [ha] at h1
  obtain rfl := Option.some.inj h1
  obtain ⟨c, hc⟩ : ∃ c, cs[j / 9]? = some c := ⟨_, List.getElem?_eq_getElem (by omega)⟩
  have hI := h3 (j / 9) c hc
  have hg := flatC_get cs (j / 9) c (j % 9) hc (by omega)
  rw [show j / 9 * 9 + j % 9 = j by omega, hu] at hg
  rw [add_at, show off + j = off + j / 9 * 9 + j % 9 by omega, hg]
  have hcc : j % 9 = 0 ∨ j % 9 = 1 ∨ j % 9 = 2 ∨ j % 9 = 3 ∨ j % 9 = 4 ∨ j % 9 = 5 ∨ j % 9 = 6 ∨ j % 9 = 7 ∨ j % 9 = 8 := by omega
  rcases hcc with e | e | e | e | e | e | e | e | e
  · rw [e]; exact hI.k0
  · rw [e]; exact hI.k1
  · rw [e]; exact hI.k2
  · rw [e]; exact hI.k3
  · rw [e]; exact hI.k4
  · rw [e]; exact hI.k5
  · rw [e]; exact hI.k6
  · rw [e]; exact hI.k7
  · rw [e]; exact hI.k8

/-- 'append([]Cond(nil), l...)', as a step of a region that draws. -/
theorem step_append_conds {ops : Array Oper} {o : Oper} {a : Act} {w : World} {K : Act → World → Prop} {Q : Exit → Act → World → Prop} {E : Prop} (hgd : o.guard = none) (s x : Operand)
    (ho : o.op = .call { callee := .builtin .append, args := #[s, x], argTypes := #[56, 56] })
    (base : Nat) (hs : a.eval s = .slice none 0 0) (oa : Option Addr) (n cap : Nat) (cs : List CD) (hx : a.eval x = .slice oa n cap) (hn : n = cs.length) (hP : IsConds oa cs w)
    (hn9 : n ≤ 9) (hbase : base ≤ w.heap.size)
    (h : ∀ v' w', w'.ownsRow base 62 9 v' n (flatC cs) → Below w.heap.size w w' → K (a.put o.dst v') w') :
    if Region.wanted o (yielded ops a.tmps) = true then Oper.wp Try.prog o a w K Q else E := by
  have hw : Region.wanted o (yielded ops a.tmps) = true := by simp [Region.wanted, hgd]
  rw [if_pos hw]
  obtain ⟨i, hi, hz, hsz, hby⟩ := info_cond
  have key : ∃ v' w', (Builtin.append_ #[56, 56] o.type #[.slice none 0 0, .slice oa n cap]).run Try.prog w = .ok v' w' ∧ w'.ownsRow base 62 9 v' n (flatC cs) ∧ Below w.heap.size w w' := by
    cases oa with
    | none =>
      have h0 : cs.length = 0 := by
        rcases Nat.eq_zero_or_pos cs.length with h | h
        · exact h
        · obtain ⟨_, _, h1, _⟩ := hP.lie h
          cases h1
      obtain rfl := List.length_eq_zero_iff.1 h0
      subst hn
      exact ⟨.slice none 0 0, w, by simp [Builtin.append_, run_underlying Try.underlying56, sizeOf, typeInfo, hi, Builtin.lenOf, Builtin.firstCells], World.ownsRow_nil _ _ _ _, Below.refl _ _⟩
    | some ad =>
      obtain ⟨v', w', hr, h2, h3, _, _⟩ := run_append_own_at (P := Try.prog) w base 56 o.type 62 i _ 9 80 Try.underlying56 hi hz hsz hby rfl (by decide) (.slice none 0 0) 0 [] (World.ownsRow_nil _ _ _ _) ad n cap (flatC cs) (by rw [flatC_len, hn]) (flatC_cells hP rfl) (flatC_one cs) (by simp only [maxLen]; omega) (by omega) hbase
      rw [Nat.zero_add, List.nil_append] at h2
      exact ⟨v', w', hr, h2, (Below.refl _ _).grown h3 (Nat.le_refl _) (fun k hk => by cases hk)⟩
  obtain ⟨v', w', hr, h2, h3⟩ := key
  unfold Oper.wp execOp
  simp only [ho, resolve, invoke, builtin, Sem.run_bind, Sem.run_pure, Result.andThen_ok, List.map_toArray, List.map_cons, List.map_nil, hs, hx, hr]
  exact h v' w' h2 h3

theorem conds_prefix {W : World} {base k cap g : Nat} {cs : List CD} {ys : List Value} (h : W.ownsRow base 62 9 (.slice (some ⟨g, 0, none⟩) k cap) k (flatC cs ++ ys)) (hok : ∀ c ∈ cs, CdOk c) : IsConds (some ⟨g, 0, none⟩) cs W :=
  ⟨fun _ => ⟨g, 0, rfl, (h.lt g rfl).2, fun i c hc => by
    have hi : i < cs.length := (List.getElem?_eq_some_iff.1 hc).1
    have hcell : ∀ j u, j < 9 → (condC c).toList[j]? = some u → W.cell? ⟨g, 0 + i * 9 + j, none⟩ = some u := fun j u hj hu => by
      have h5 := h.cells (g := g) rfl (i * 9 + j) u (by rw [List.getElem?_append_left (by rw [flatC_len]; omega), flatC_get cs i c j hc hj]; exact hu)
      rwa [add_at, ← Nat.add_assoc] at h5
    exact ⟨hcell 0 _ (by omega) rfl, hcell 1 _ (by omega) rfl, hcell 2 _ (by omega) rfl, hcell 3 _ (by omega) rfl, hcell 4 _ (by omega) rfl, hcell 5 _ (by omega) rfl, hcell 6 _ (by omega) rfl, hcell 7 _ (by omega) rfl, hcell 8 _ (by omega) rfl, hok c (List.mem_of_getElem? hc)⟩⟩⟩
theorem owned_cap {W : World} {base n cap g : Nat} {xs : List Value} (h : W.ownsRow base 62 9 (.slice (some ⟨g, 0, none⟩) n cap) n xs) : n ≤ cap ∧ cap ≤ maxLen := by
  rcases h.2 with ⟨h1, _⟩ | ⟨g', cap', cur, h1, _, _, hc, hm, _⟩
  · cases h1
  · cases h1; exact ⟨hc, hm⟩
theorem row_grown {X Y : World} {o : Option Nat} {r : Nat} {x : Obj} (h : X.heap[r]? = some x) (hg : X.grownBy Y o) (hne : ∀ k, o = some k → r + 1 ≤ k) : Y.heap[r]? = some x :=
  (hg.block r (Array.getElem?_eq_some_iff.1 h).1 (fun e => by have := hne r e.symm; omega)).trans h

/-- A rule with conds of its own. -/
structure OZ (wr : World) (r6 : Nat) (nr : Int) (cs : List CD) (a : ACT) (gg cap1 : Nat) (Z : World) : Prop where
  below : Below wr.heap.size wr Z
  row : Z.heap[r6]? = some (.cells (ruleC nr (.slice (some ⟨gg, 0, none⟩) cs.length cap1) a) 58 (0, 0))
  conds : IsConds (some ⟨gg, 0, none⟩) cs Z
  le : cs.length ≤ cap1
  cap : cap1 ≤ maxLen
  lt : r6 < gg ∧ gg < Z.heap.size
theorem oz_of {wr X Y : World} {r6 m gg cap1 : Nat} {nr : Int} {cs : List CD} {a : ACT} {sv v : Value} {ys : List Value} (h0 : Below wr.heap.size wr X) (h6 : wr.heap.size ≤ r6) (hr : X.heap[r6]? = some (.cells (ruleC nr sv a) 58 (0, 0))) (hv : ∀ k, v.ownBlock = some k → r6 + 1 ≤ k)
    (hg : X.grownBy Y v.ownBlock) (ho : Y.ownsRow (r6 + 1) 62 9 (.slice (some ⟨gg, 0, none⟩) (m + 1) cap1) (m + 1) (flatC cs ++ ys)) (hok : ∀ c ∈ cs, CdOk c) (hm : m = cs.length) :
    OZ wr r6 nr cs a gg cap1 (Y.setCell ⟨r6, 1, none⟩ (.slice (some ⟨gg, 0, none⟩) m cap1)) := by
  have hY := row_grown hr hg hv
  have hl := ho.lt gg rfl
  have hc := owned_cap ho
  have hXY : Below wr.heap.size wr Y := h0.trans ⟨hg.os, hg.tape, hg.output, hg.size, fun k hk => hg.block k (Nat.lt_of_lt_of_le hk h0.size) (fun e => by have := hv k e.symm; omega)⟩
  have hB := But.set r6 1 Y (.slice (some ⟨gg, 0, none⟩) m cap1)
  refine ⟨hB.below hXY h6 hXY.size, ?_, ?_, by omega, hc.2, ⟨by omega, Nat.lt_of_lt_of_le hl.2 hB.size⟩⟩
  · rw [setCell_eq_setRow _ _ 1 _ _ _ _ hY, setRow_heap _ _ _ _ _ _ hY, hm]
    rfl
  · exact (conds_prefix ho hok).heap (fun b off e hb => hB.block b hb (by simp only [Option.some.injEq, Addr.mk.injEq] at e; omega)) hB.size

theorem oz_plain {wr W1 w1 w2 : World} {m gg cap1 : Nat} {nr : Int} {cs : List CD} {a : ACT} {sv v : Value} {xs ys : List Value} (h0 : Below wr.heap.size wr W1) (hb : Below W1.heap.size W1 w1) (hr : w1.heap[wr.heap.size]? = some (.cells (ruleC nr sv a) 58 (0, 0))) (hv : w1.ownsRow (wr.heap.size + 1) 62 9 v m xs)
    (hg : w1.grownBy w2 v.ownBlock) (ho : w2.ownsRow (wr.heap.size + 1) 62 9 (.slice (some ⟨gg, 0, none⟩) (m + 1) cap1) (m + 1) (flatC cs ++ ys)) (hok : ∀ c ∈ cs, CdOk c) (hm : m = cs.length) :
    OZ wr wr.heap.size nr cs a gg cap1 (w2.setCell ⟨wr.heap.size, 1, none⟩ (.slice (some ⟨gg, 0, none⟩) m cap1)) ∧ w2.heap[wr.heap.size]? = some (.cells (ruleC nr sv a) 58 (0, 0)) ∧ m ≤ cap1 :=
  ⟨oz_of (below_next h0 hb) (Nat.le_refl _) hr (fun k hk => (hv.lt k hk).1) hg ho hok hm, row_grown hr hg (fun k hk => (hv.lt k hk).1), by have := (owned_cap ho).1; omega⟩
theorem oz_alloc {wr W1 w1 w2 : World} {o : Obj} {m gg cap1 : Nat} {nr : Int} {cs : List CD} {a : ACT} {sv v : Value} {xs ys : List Value} (h0 : Below wr.heap.size wr W1) (hb : Below W1.heap.size W1 w1) (hr : w1.heap[wr.heap.size]? = some (.cells (ruleC nr sv a) 58 (0, 0))) (hv : w1.ownsRow (wr.heap.size + 1) 62 9 v m xs)
    (hg : (w1.alloc o).grownBy w2 v.ownBlock) (ho : w2.ownsRow (wr.heap.size + 1) 62 9 (.slice (some ⟨gg, 0, none⟩) (m + 1) cap1) (m + 1) (flatC cs ++ ys)) (hok : ∀ c ∈ cs, CdOk c) (hm : m = cs.length) :
    OZ wr wr.heap.size nr cs a gg cap1 (w2.setCell ⟨wr.heap.size, 1, none⟩ (.slice (some ⟨gg, 0, none⟩) m cap1)) ∧ w2.heap[wr.heap.size]? = some (.cells (ruleC nr sv a) 58 (0, 0)) ∧ m ≤ cap1 := by
  have hr2 : (w1.alloc o).heap[wr.heap.size]? = some (.cells (ruleC nr sv a) 58 (0, 0)) := ((box_below w1 o).block _ (Array.getElem?_eq_some_iff.1 hr).1).trans hr
  exact ⟨oz_of (below_next (below_next h0 hb) (box_below w1 o)) (Nat.le_refl _) hr2 (fun k hk => (hv.lt k hk).1) hg ho hok hm, row_grown hr2 hg (fun k hk => (hv.lt k hk).1), by have := (owned_cap ho).1; omega⟩

/-- The world in the midst of Own. -/
structure OX (w : World) (oa : Option Addr) (n cap : Nat) (a : ACT) (sv : Value) (X : World) : Prop where
  below : Below w.heap.size w X
  box : X.heap[w.heap.size]? = some (.cells (polC (.slice oa n cap) a) 27 (0, 0))
  res : X.heap[w.heap.size + 1]? = some (.cells (polC (.slice none 0 0) ⟨0, 0⟩) 27 (0, 0))
  row : X.heap[w.heap.size + 2]? = some (.cells (polC sv a) 27 (0, 0))
theorem OX.heap {w : World} {oa : Option Addr} {n cap : Nat} {a : ACT} {sv : Value} {X Y : World} (h : OX w oa n cap a sv X) (ho : Y.os = X.os ∧ Y.tape = X.tape ∧ Y.output = X.output) (hs : X.heap.size ≤ Y.heap.size) (hb : ∀ k, k ≤ w.heap.size + 2 → Y.heap[k]? = X.heap[k]?) : OX w oa n cap a sv Y :=
  ⟨h.below.trans ⟨ho.1, ho.2.1, ho.2.2, hs, fun k hk => hb k (by omega)⟩, (hb _ (by omega)).trans h.box, (hb _ (by omega)).trans h.res, (hb _ (by omega)).trans h.row⟩
theorem OX.lt {w : World} {oa : Option Addr} {n cap : Nat} {a : ACT} {sv : Value} {X : World} (h : OX w oa n cap a sv X) : w.heap.size + 2 < X.heap.size := (Array.getElem?_eq_some_iff.1 h.row).1
theorem OX.on {w : World} {oa : Option Addr} {n cap : Nat} {a : ACT} {sv : Value} {X Y : World} (h : OX w oa n cap a sv X) (hb : Below X.heap.size X Y) : OX w oa n cap a sv Y :=
  h.heap ⟨hb.os, hb.tape, hb.output⟩ hb.size fun k hk => hb.block k (by have := h.lt; omega)
theorem OX.set {w : World} {oa : Option Addr} {n cap : Nat} {a : ACT} {sv : Value} {X : World} (h : OX w oa n cap a sv X) (sv' : Value) : OX w oa n cap a sv' (X.setCell ⟨w.heap.size + 2, 0, none⟩ sv') := by
  rw [setCell_eq_setRow _ _ 0 _ _ _ _ h.row, show (polC sv a).setIfInBounds 0 sv' = polC sv' a from rfl]
  have hb : ∀ k, k ≠ w.heap.size + 2 → (X.setRow (w.heap.size + 2) (polC sv' a)).heap[k]? = X.heap[k]? := fun k hk => row_heap X _ k _ hk
  exact ⟨h.below.trans ⟨rfl, rfl, rfl, by rw [row_size]; exact Nat.le_refl _, fun k hk => hb k (by omega)⟩, (hb _ (by omega)).trans h.box, (hb _ (by omega)).trans h.res, setRow_heap _ _ _ _ _ _ h.row⟩
theorem OX.start (w : World) (oa : Option Addr) (n cap : Nat) (a : ACT) : OX w oa n cap a (.slice none 0 0) (((w.alloc (.cells (polC (.slice oa n cap) a) 27)).alloc (.cells (polC (.slice none 0 0) ⟨0, 0⟩) 27)).alloc (.cells (polC (.slice none 0 0) a) 27)) := by
  obtain ⟨A, hA⟩ : ∃ A, A = w.alloc (.cells (polC (.slice oa n cap) a) 27) := ⟨_, rfl⟩
  have a1 : A.heap[w.heap.size]? = some (.cells (polC (.slice oa n cap) a) 27 (0, 0)) := by rw [hA]; exact heap_alloc_new _ _
  have a2 : Below w.heap.size w A := by rw [hA]; exact box_below _ _
  have a3 : A.heap.size = w.heap.size + 1 := by rw [hA, World.size_alloc]
  rw [← hA]
  obtain ⟨B, hB⟩ : ∃ B, B = A.alloc (.cells (polC (.slice none 0 0) ⟨0, 0⟩) 27) := ⟨_, rfl⟩
  have b1 : B.heap[w.heap.size + 1]? = some (.cells (polC (.slice none 0 0) ⟨0, 0⟩) 27 (0, 0)) := by rw [hB, ← a3]; exact heap_alloc_new _ _
  have b2 : Below A.heap.size A B := by rw [hB]; exact box_below _ _
  have b3 : B.heap.size = w.heap.size + 2 := by rw [hB, World.size_alloc, a3]
  rw [← hB]
  have c2 := box_below B (.cells (polC (.slice none 0 0) a) 27)
  exact ⟨below_next (below_next a2 b2) c2, ((c2.block _ (by omega)).trans (b2.block _ (by omega))).trans a1, (c2.block _ (by omega)).trans b1, by rw [← b3]; exact heap_alloc_new _ _⟩

set_option maxHeartbeats 8000000 in
set_option maxRecDepth 100000 in
theorem own_any (p : POL) (hf : p.rules.length ≤ 14) (hc6 : ∀ r ∈ p.rules, r.conds.length ≤ 6) (oa : Option Addr) (cap : Nat) (w : World) (h : IsPol oa cap p w) :
    Calls Try.prog 11 #[polV p oa cap] w fun e w' => (∃ ob cb, e = .returned (polV p ob cb) ∧ IsPol ob cb p w') ∧ Below w.heap.size w w' := by
  obtain ⟨n, hn⟩ : ∃ n, n = p.rules.length := ⟨_, rfl⟩
  have HC := hide (pol_parts h n hn)
  have HPK := hide h.ok
  clear h
  have h14 : n ≤ 14 := by omega
  have H6 := hide hc6
  clear hc6 hf
  obtain ⟨rs, ⟨ak, ae⟩⟩ := p
  have HPV := hide (show ∀ ob cb, polV ⟨rs, ⟨ak, ae⟩⟩ ob cb = .agg #[.slice ob n cb, .int .i64 ak, .int .i64 ae] from fun ob cb => by unfold polV; simp only at hn ⊢; rw [← hn])
  rw [HPV.out]
  simp only at HC hn H6
  have HN := hide hn
  have HL := hide (show ∀ i, i < n → ∃ c, rs[i]? = some c ∧ rs.take (i + 1) = rs.take i ++ [c] from fun i h => take_next (by omega))
  clear hn
  have HO0 := hide (OX.start w oa n cap ⟨ak, ae⟩)
  unfold polC at HO0
  simp only at HO0
  obtain ⟨V, hV⟩ : ∃ V, V = ((w.alloc (.cells #[.slice oa n cap, .int .i64 ak, .int .i64 ae] 27)).alloc (.cells #[.slice none 0 0, .int .i64 0, .int .i64 0] 27)).alloc (.cells #[.slice none 0 0, .int .i64 ak, .int .i64 ae] 27) := ⟨_, rfl⟩
  rw [← hV] at HO0
  go_enter Try.func11, Try.ntmps11
  go_wp2
  rw [← hV]
  clear hV
  go_loopw [4] (fun I w' => ∃ (i : Nat) (es : List RE) (sv : Value), i ≤ n ∧ I = .int .i64 i ∧ Hid (OX w oa n cap ⟨ak, ae⟩ sv w') ∧ Hid (w'.ownsRow (w.heap.size + 3) 58 4 sv es.length (flatR es)) ∧ Hid (CondsOk (w.heap.size + 2) sv es w') ∧ Hid (es.map (·.1) = rs.take i) ∧ Hid (es.length = i)) (fun I _ => n - (intOf I).toNat)
  case atStart => exact ⟨0, [], .slice none 0 0, by omega, rfl, HO0, hide (World.ownsRow_nil _ _ _ _), hide (fun e he => by cases he), hide (by simp), hide rfl⟩
  case round =>
    obtain ⟨i, es, sv, hi, rfl, HX, HO, HK, HI, HEL⟩ := hrel
    clear HO0
    have b0 : wr.cell? ⟨w.heap.size, 0, none⟩ = some (.slice oa n cap) := cell_of_row _ _ 0 _ _ _ HX.out.box
    have lX := HX.out.lt
    by_cases hlt : i < n
    · obtain ⟨c, hcs, hcat⟩ := HL.out i hlt
      obtain ⟨b, off, rfl, hbw, HA⟩ := HC.out (by omega)
      obtain ⟨ca, cc, hR0⟩ := HA.out i c hcs
      have hR := hR0.on hbw HX.out.below
      obtain ⟨m, hm⟩ : ∃ m, m = c.conds.length := ⟨_, rfl⟩
      have hm6 : m ≤ 6 := by rw [hm]; exact H6.out c (List.mem_of_getElem? hcs)
      have HROK := hide hR.ok
      have HTK := hide hcat
      have HM := hide hm
      obtain ⟨W1, hW1, hW1b, hW1h, hW1s⟩ : ∃ V, V = wr.alloc (.cells #[.int .i64 c.nr, .slice ca m cc, .int .i64 c.act.kind, .int .i64 c.act.errno] 58) ∧ Below wr.heap.size wr V ∧ V.heap[wr.heap.size]? = some (.cells (ruleC c.nr (.slice ca m cc) c.act) 58 (0, 0)) ∧ V.heap.size = wr.heap.size + 1 := ⟨_, rfl, box_below _ _, heap_alloc_new _ _, by rw [World.size_alloc]⟩
      have HIC : Hid (IsConds ca c.conds W1) := hide (hR.conds.on hW1b)
      have HW1 : Hid (Below wr.heap.size wr W1) := hide hW1b
      have HR1 : Hid (W1.heap[wr.heap.size]? = some (.cells (ruleC c.nr (.slice ca m cc) c.act) 58 (0, 0))) := hide hW1h
      have r1 : W1.drew.cell? ⟨wr.heap.size, 1, none⟩ = some (.slice ca m cc) := cell_of_row _ _ 1 _ _ _ HR1.out
      have f1 : W1.drew.frozen? ⟨wr.heap.size, 1, none⟩ = false := frozen_of_row _ _ 1 _ _ HR1.out
      have r1b : (W1.alloc (.cells #[.int .i64 0, .int .i64 77, .int .u64 0, .int .u64 0, .string ⟨#[]⟩, .int .u32 0, .int .i64 0, .int .i64 0, .int .i64 0] 62)).drew.cell? ⟨wr.heap.size, 1, none⟩ = some (.slice ca m cc) := keep_cell (box_below W1 _).drew (cell_of_row _ _ 1 _ _ _ HR1.out)
      have l1 : wr.heap.size < W1.heap.size := by omega
      have L1 := hide hW1s
      obtain ⟨p0, p1, p2, p3, _, _, _, _⟩ := hR
      rw [← hm] at p1
      clear hcs hcat hR0 hm hW1b hW1h hW1s
      obtain ⟨nr, cs, ⟨rk, re⟩⟩ := c
      simp only at p0 p1 p2 p3 hW1 HIC HR1 HROK HM HTK
      obtain ⟨inf, hi0, hz0, hz1, hz2⟩ := info_cond
      go_wp2
      rw [← hW1]
      clear hW1 p0 p1 p2 p3 b0
      have i1 : (0 : Int) ≤ m := by omega
      go_region_law
        (first
          | (refine step_append_conds (by rfl) _ _ (by rfl) (wr.heap.size + 1) (by rfl) ca m cc cs (by rfl) HM.out (by first | exact HIC.out.on (Below.refl _ W1).drew | exact (HIC.out.on (box_below W1 _)).on (Below.refl _ _).drew) (by omega) (by first | (have := L1.out; show _ ≤ W1.heap.size; omega) | (have := L1.out; show _ ≤ (W1.alloc _).heap.size; rw [World.size_alloc]; omega)) ?_; intro v1 w1 ho1 hb1; have HB1 : Hid (Below W1.heap.size W1 w1) := hide (by first | exact drewB hb1 | exact drewA hb1); have HR2 := hide ((HB1.out.block _ l1).trans HR1.out); have r2 : w1.cell? ⟨wr.heap.size, 1, none⟩ = some (.slice ca m cc) := cell_of_row _ _ 1 _ _ _ HR2.out; have l2 : wr.heap.size < w1.heap.size := block_lt_of_cell r2; have HO1 := hide ho1; (first | have HE := hide ((hb1.block W1.heap.size (by show _ < (W1.alloc _).heap.size; rw [World.size_alloc]; exact Nat.lt_succ_self _)).trans (heap_alloc_new W1 _)) | skip); clear ho1 hb1)
          | (refine step_append_lies _ (by rfl) _ _ _ (by rfl) (wr.heap.size + 1) 62 inf _ 9 80 Try.underlying56 hi0 hz0 hz1 hz2 rfl (by omega) v1 m (flatC cs) (by rfl) (HO1.out.alloc _)
                ⟨w1.heap.size, 0, none⟩ 1 1 [.int .i64 0, .int .i64 77, .int .u64 0, .int .u64 0, .string ⟨#[]⟩, .int .u32 0, .int .i64 0, .int .i64 0, .int .i64 0] (by rfl) (by rfl) (World.news_of_block (cs := #[.int .i64 0, .int .i64 77, .int .u64 0, .int .u64 0, .string ⟨#[]⟩, .int .u32 0, .int .i64 0, .int .i64 0, .int .i64 0]) (t := 62) (fr := (0, 0)) (heap_alloc_new w1 _)) (by simp [Value.oneCell'])
                (by omega) (by simp only [maxLen]; omega) (by omega) (by rw [World.size_alloc]; omega) (w1.heap.size + 1) (by simp) ?_; intro gg cap1 w2 hown1 hgrow hat hltt; have HZ3 := hide (oz_alloc HW1.out HB1.out HR2.out HO1.out hgrow hown1 HROK.out.conds HM.out); have HZ := hide HZ3.out.1; have hcp := HZ3.out.2.2; have r3 : w2.cell? ⟨wr.heap.size, 1, none⟩ = some (.slice ca m cc) := cell_of_row _ _ 1 _ _ _ HZ3.out.2.1; have f3 : w2.frozen? ⟨wr.heap.size, 1, none⟩ = false := frozen_of_row _ _ 1 _ _ HZ3.out.2.1; have i2 : (m : Int) ≤ cap1 := (by omega); clear hown1 hgrow hat hltt)
          | (refine step_append_lies _ (by rfl) _ _ _ (by rfl) (wr.heap.size + 1) 62 inf _ 9 80 Try.underlying56 hi0 hz0 hz1 hz2 rfl (by omega) v1 m (flatC cs) (by rfl) HO1.out
                ⟨W1.heap.size, 0, none⟩ 1 1 [.int .i64 0, .int .i64 77, .int .u64 0, .int .u64 0, .string ⟨#[]⟩, .int .u32 0, .int .i64 0, .int .i64 0, .int .i64 0] (by rfl) (by rfl) (World.news_of_block (cs := #[.int .i64 0, .int .i64 77, .int .u64 0, .int .u64 0, .string ⟨#[]⟩, .int .u32 0, .int .i64 0, .int .i64 0, .int .i64 0]) (t := 62) (fr := (0, 0)) HE.out) (by simp [Value.oneCell'])
                (by omega) (by simp only [maxLen]; omega) (by omega) (by omega) w1.heap.size (by rfl) ?_; intro gg cap1 w2 hown1 hgrow hat hltt; have HZ3 := hide (oz_plain HW1.out HB1.out HR2.out HO1.out hgrow hown1 HROK.out.conds HM.out); have HZ := hide HZ3.out.1; have hcp := HZ3.out.2.2; have r3 : w2.cell? ⟨wr.heap.size, 1, none⟩ = some (.slice ca m cc) := cell_of_row _ _ 1 _ _ _ HZ3.out.2.1; have f3 : w2.frozen? ⟨wr.heap.size, 1, none⟩ = false := frozen_of_row _ _ 1 _ _ HZ3.out.2.1; have i2 : (m : Int) ≤ cap1 := (by omega); clear hown1 hgrow hat hltt))
      all_goals
        refine forget_any (OZ wr wr.heap.size nr cs ⟨rk, re⟩ gg cap1) HZ.out ?_
        intro Z hZ
        have HZZ := hide hZ
        clear hZ HZ HZ3 r3 f3 HR2 r2 l2 HO1 HB1
        have HXZ := hide (HX.out.on HZZ.out.below)
        have HOZ := hide (own_on HO.out HZZ.out.below)
        have m0 : Z.cell? ⟨wr.heap.size, 0, none⟩ = some (.int .i64 nr) := cell_of_row _ _ 0 _ _ _ HZZ.out.row
        have m1 : Z.cell? ⟨wr.heap.size, 1, none⟩ = some (.slice (some ⟨gg, 0, none⟩) m cap1) := by rw [HM.out]; exact cell_of_row _ _ 1 _ _ _ HZZ.out.row
        have m2 : Z.cell? ⟨wr.heap.size, 2, none⟩ = some (.int .i64 rk) := cell_of_row _ _ 2 _ _ _ HZZ.out.row
        have m3 : Z.cell? ⟨wr.heap.size, 3, none⟩ = some (.int .i64 re) := cell_of_row _ _ 3 _ _ _ HZZ.out.row
        have cD : Z.cell? ⟨w.heap.size + 2, 0, none⟩ = some sv := cell_of_row _ _ 0 _ _ _ HXZ.out.row
        have l5 : w.heap.size + 2 < Z.heap.size := HXZ.out.lt
        obtain ⟨infR, hj0, hj1, hj2, hj3⟩ := info_rule
        have hel : es.length ≤ 14 := by have := HEL.out; omega
        go_wp2_with (refine wpList_append_lies _ (by rfl) _ _ _ (by rfl) (w.heap.size + 3) 58 infR _ 4 48 Try.underlying23 hj0 hj1 hj2 hj3 rfl (by omega) sv es.length (flatR es) (by rfl) (HOZ.out.alloc _) ⟨Z.heap.size, 0, none⟩ 1 1 [.int .i64 nr, .slice (some ⟨gg, 0, none⟩) m cap1, .int .i64 rk, .int .i64 re] (by rfl) (by rfl) (World.news_of_block (cs := #[.int .i64 nr, .slice (some ⟨gg, 0, none⟩) m cap1, .int .i64 rk, .int .i64 re]) (t := 58) (fr := (0, 0)) (heap_alloc_new Z _)) (by simp [Value.oneCell']) (by omega) (by simp only [maxLen]; omega) (by omega) (by rw [World.size_alloc]; omega) (Z.heap.size + 1) (by simp) ?_; intro g7 cap7 w7 hown7 hgrow7 hat7 hlt7; have HG7 := hide (And.intro hown7 (And.intro hgrow7 (And.intro hat7 hlt7))); have HW7 := hide (HXZ.out.heap (Y := w7) ⟨hgrow7.os, hgrow7.tape, hgrow7.output⟩ (Nat.le_trans (box_below Z _).size hgrow7.size) (fun k hk => (hgrow7.block k (by rw [World.size_alloc]; omega) (fun e1 => by have := (HOZ.out.lt k e1.symm).1; omega)).trans ((box_below Z _).block k (by omega)))); have cE : w7.cell? ⟨w.heap.size + 2, 0, none⟩ = some sv := cell_of_row _ _ 0 _ _ _ HW7.out.row; have fE : w7.frozen? ⟨w.heap.size + 2, 0, none⟩ = false := frozen_of_row _ _ 0 _ _ HW7.out.row; clear hown7 hgrow7 hat7 hlt7)
        have HS2 := hide (HW7.out.set (.slice (some ⟨g7, 0, none⟩) (es.length + 1) cap7))
        have HO2 := hide (own_but (r := w.heap.size + 2) (V := w7.setCell ⟨w.heap.size + 2, 0, none⟩ (.slice (some ⟨g7, 0, none⟩) (es.length + 1) cap7)) HG7.out.1 (But.set (w.heap.size + 2) 0 w7 _) (by omega))
        have HK2 := hide (condsOk_more (e := (⟨nr, cs, ⟨rk, re⟩⟩, some ⟨gg, 0, none⟩, cap1)) (gg := g7) (n := es.length + 1) (cap := cap7) HK.out HZZ.out.below ⟨HROK.out, HZZ.out.conds, HZZ.out.le, HZZ.out.cap, fun b off e0 => by
          simp only [Option.some.injEq, Addr.mk.injEq] at e0
          have := HZZ.out.lt
          omega⟩ HX.out.lt (fun k hk => (HO.out.lt k hk).2) HG7.out.2.1 HG7.out.2.2.1 (w7.setCell ⟨w.heap.size + 2, 0, none⟩ (.slice (some ⟨g7, 0, none⟩) (es.length + 1) cap7)) (fun k hk => Below.heap_setCell _ _ _ _ hk) (But.set (w.heap.size + 2) 0 w7 _).size)
        have HI2 := hide (show (es ++ [((⟨nr, cs, ⟨rk, re⟩⟩ : RL), (some ⟨gg, 0, none⟩ : Option Addr), cap1)]).map (·.1) = rs.take (i + 1) by rw [HTK.out, List.map_append, HI.out]; rfl)
        have HEL2 := hide (show (es ++ [((⟨nr, cs, ⟨rk, re⟩⟩ : RL), (some ⟨gg, 0, none⟩ : Option Addr), cap1)]).length = i + 1 by rw [List.length_append, List.length_singleton, HEL.out])
        replace HO2 : Hid ((w7.setCell ⟨w.heap.size + 2, 0, none⟩ (.slice (some ⟨g7, 0, none⟩) (es.length + 1) cap7)).ownsRow (w.heap.size + 3) 58 4 (.slice (some ⟨g7, 0, none⟩) (es.length + 1) cap7) (es ++ [((⟨nr, cs, ⟨rk, re⟩⟩ : RL), (some ⟨gg, 0, none⟩ : Option Addr), cap1)]).length (flatR (es ++ [((⟨nr, cs, ⟨rk, re⟩⟩ : RL), (some ⟨gg, 0, none⟩ : Option Addr), cap1)]))) := hide (by
          rw [List.length_append, List.length_singleton, flatR_snoc]
          have := HO2.out
          rw [HM.out] at this
          exact this)
        clear cD cE fE l5 HG7 HW7 HXZ HOZ m0 m1 m2 m3 HZZ
        go_wp2
        go_round
        case rel => exact ⟨i + 1, _, _, by omega, by go_num, HS2, HO2, HK2, HI2, HEL2⟩
        case measure => simp [intOf]; omega
    · obtain rfl : i = n := by omega
      have HEQ := hide (show es.map (·.1) = rs by rw [HI.out, List.take_of_length_le (by rw [HN.out]; exact Nat.le_refl _)])
      have c0 : wr.cell? ⟨w.heap.size + 2, 0, none⟩ = some sv := cell_of_row _ _ 0 _ _ _ HX.out.row
      have c1 : wr.cell? ⟨w.heap.size + 2, 1, none⟩ = some (.int .i64 ak) := cell_of_row _ _ 1 _ _ _ HX.out.row
      have c2 : wr.cell? ⟨w.heap.size + 2, 2, none⟩ = some (.int .i64 ae) := cell_of_row _ _ 2 _ _ _ HX.out.row
      obtain ⟨oc, cc, hsv, hcl, hcm, _⟩ := rules_owned HO.out HK.out
      subst hsv
      have hres := HX.out.res
      obtain ⟨rc, hrc⟩ : ∃ rc : Array Value, rc = polC (.slice oc es.length cc) ⟨ak, ae⟩ := ⟨_, rfl⟩
      have h1c : rc.all (·.oneCell') = true := by rw [hrc]; simp [polC, Value.oneCell']
      go_wp2_with (refine wpList_store_row rfl 27 _ _ rfl (w.heap.size + 1) rc rfl (by rw [hrc]; rfl) 27 _ hres (by rw [hrc]; exact size_pol) (by rw [hrc]; rfl) h1c ?_)
      have hb1 : ∀ k, k ≠ w.heap.size + 1 → (wr.setRow (w.heap.size + 1) rc).heap[k]? = wr.heap[k]? := fun k hk => row_heap wr _ k _ hk
      have hBt : But (w.heap.size + 1) wr (wr.setRow (w.heap.size + 1) rc) := ⟨rfl, rfl, rfl, by rw [row_size]; exact Nat.le_refl _, fun k _ hn => hb1 k hn⟩
      refine bodyPost_ret (v := .agg rc) (results_cell_row rfl _ _ (w.heap.size + 1) 27 rc (0, 0) _ rfl (setRow_heap _ _ _ _ _ _ hres) Try.underlying27 rfl (by rw [hrc]; exact size_pol)) rfl ⟨?_, hBt.below HX.out.below (by omega) HX.out.below.size⟩
      have hO2 := HO.out.kept hBt.grown (by
        by_cases he : (Value.slice oc es.length cc).ownBlock = some (w.heap.size + 1)
        · have := (HO.out.lt _ he).1
          omega
        · exact .inr he)
      have hK2 : CondsOk (w.heap.size + 2) (.slice oc es.length cc) es (wr.setRow (w.heap.size + 1) rc) := fun e he => by
        obtain ⟨q1, q2, q3, q4, q5⟩ := HK.out e he
        refine ⟨q1, q2.heap (fun b off e0 _ => hb1 b (by have := q5 b off e0; omega)) (by rw [row_size]; exact Nat.le_refl _), q3, q4, fun b off e0 => ?_⟩
        rw [row_size]
        exact q5 b off e0
      obtain ⟨oc', cc', hsv', _, _, hIR⟩ := rules_owned hO2 hK2
      simp only [Value.slice.injEq] at hsv'
      obtain ⟨rfl, _, rfl⟩ := hsv'
      rw [HEQ.out] at hIR
      exact ⟨oc, cc, by rw [hrc, HPV.out]; unfold polC; simp only; rw [HEL.out], ⟨hIR, by simp only; rw [← HN.out, ← HEL.out]; exact hcl, hcm, HPK.out⟩⟩
end Go.Proofs.Ytphkhfeofoadcab

/- The document's Kind at every call and argument. -/
namespace Go.Proofs.Ytphkhfeofoadcab
open Go.RowKit

theorem kindIdx_0 (w : World) : (Instr.index 103 (.agg #[.string ⟨#[49, 49]⟩, .string ⟨#[49, 49]⟩, .string ⟨#[50, 49, 49]⟩, .string ⟨#[49]⟩, .string ⟨#[50]⟩, .string ⟨#[50, 50]⟩, .string ⟨#[49, 51]⟩, .string ⟨#[50, 50, 49]⟩, .string ⟨#[49, 49, 51, 49]⟩]) (.int .i64 0)).run Try.prog w = .ok (.string ⟨#[49, 49]⟩) w := by kernel_rfl
theorem kindIdx_1 (w : World) : (Instr.index 103 (.agg #[.string ⟨#[49, 49]⟩, .string ⟨#[49, 49]⟩, .string ⟨#[50, 49, 49]⟩, .string ⟨#[49]⟩, .string ⟨#[50]⟩, .string ⟨#[50, 50]⟩, .string ⟨#[49, 51]⟩, .string ⟨#[50, 50, 49]⟩, .string ⟨#[49, 49, 51, 49]⟩]) (.int .i64 1)).run Try.prog w = .ok (.string ⟨#[49, 49]⟩) w := by kernel_rfl
theorem kindIdx_2 (w : World) : (Instr.index 103 (.agg #[.string ⟨#[49, 49]⟩, .string ⟨#[49, 49]⟩, .string ⟨#[50, 49, 49]⟩, .string ⟨#[49]⟩, .string ⟨#[50]⟩, .string ⟨#[50, 50]⟩, .string ⟨#[49, 51]⟩, .string ⟨#[50, 50, 49]⟩, .string ⟨#[49, 49, 51, 49]⟩]) (.int .i64 2)).run Try.prog w = .ok (.string ⟨#[50, 49, 49]⟩) w := by kernel_rfl
theorem kindIdx_3 (w : World) : (Instr.index 103 (.agg #[.string ⟨#[49, 49]⟩, .string ⟨#[49, 49]⟩, .string ⟨#[50, 49, 49]⟩, .string ⟨#[49]⟩, .string ⟨#[50]⟩, .string ⟨#[50, 50]⟩, .string ⟨#[49, 51]⟩, .string ⟨#[50, 50, 49]⟩, .string ⟨#[49, 49, 51, 49]⟩]) (.int .i64 3)).run Try.prog w = .ok (.string ⟨#[49]⟩) w := by kernel_rfl
theorem kindIdx_4 (w : World) : (Instr.index 103 (.agg #[.string ⟨#[49, 49]⟩, .string ⟨#[49, 49]⟩, .string ⟨#[50, 49, 49]⟩, .string ⟨#[49]⟩, .string ⟨#[50]⟩, .string ⟨#[50, 50]⟩, .string ⟨#[49, 51]⟩, .string ⟨#[50, 50, 49]⟩, .string ⟨#[49, 49, 51, 49]⟩]) (.int .i64 4)).run Try.prog w = .ok (.string ⟨#[50]⟩) w := by kernel_rfl
theorem kindIdx_5 (w : World) : (Instr.index 103 (.agg #[.string ⟨#[49, 49]⟩, .string ⟨#[49, 49]⟩, .string ⟨#[50, 49, 49]⟩, .string ⟨#[49]⟩, .string ⟨#[50]⟩, .string ⟨#[50, 50]⟩, .string ⟨#[49, 51]⟩, .string ⟨#[50, 50, 49]⟩, .string ⟨#[49, 49, 51, 49]⟩]) (.int .i64 5)).run Try.prog w = .ok (.string ⟨#[50, 50]⟩) w := by kernel_rfl
theorem kindIdx_6 (w : World) : (Instr.index 103 (.agg #[.string ⟨#[49, 49]⟩, .string ⟨#[49, 49]⟩, .string ⟨#[50, 49, 49]⟩, .string ⟨#[49]⟩, .string ⟨#[50]⟩, .string ⟨#[50, 50]⟩, .string ⟨#[49, 51]⟩, .string ⟨#[50, 50, 49]⟩, .string ⟨#[49, 49, 51, 49]⟩]) (.int .i64 6)).run Try.prog w = .ok (.string ⟨#[49, 51]⟩) w := by kernel_rfl
theorem kindIdx_7 (w : World) : (Instr.index 103 (.agg #[.string ⟨#[49, 49]⟩, .string ⟨#[49, 49]⟩, .string ⟨#[50, 49, 49]⟩, .string ⟨#[49]⟩, .string ⟨#[50]⟩, .string ⟨#[50, 50]⟩, .string ⟨#[49, 51]⟩, .string ⟨#[50, 50, 49]⟩, .string ⟨#[49, 49, 51, 49]⟩]) (.int .i64 7)).run Try.prog w = .ok (.string ⟨#[50, 50, 49]⟩) w := by kernel_rfl
theorem kindIdx_8 (w : World) : (Instr.index 103 (.agg #[.string ⟨#[49, 49]⟩, .string ⟨#[49, 49]⟩, .string ⟨#[50, 49, 49]⟩, .string ⟨#[49]⟩, .string ⟨#[50]⟩, .string ⟨#[50, 50]⟩, .string ⟨#[49, 51]⟩, .string ⟨#[50, 50, 49]⟩, .string ⟨#[49, 49, 51, 49]⟩]) (.int .i64 8)).run Try.prog w = .ok (.string ⟨#[49, 49, 51, 49]⟩) w := by kernel_rfl
theorem kind_0_0 (w : World) : Calls Try.prog 31 #[.int .i64 0, .int .i64 0] w fun e w' => e = .returned (.int .i64 1) ∧ w' = w := by
  have hi := kindIdx_0
  go_enter Try.func31, Try.ntmps31
  go_wp2
  go_ret
  exact ⟨rfl, rfl⟩
theorem kind_0_1 (w : World) : Calls Try.prog 31 #[.int .i64 0, .int .i64 1] w fun e w' => e = .returned (.int .i64 1) ∧ w' = w := by
  have hi := kindIdx_0
  go_enter Try.func31, Try.ntmps31
  go_wp2
  go_ret
  exact ⟨rfl, rfl⟩
theorem kind_0_2 (w : World) : Calls Try.prog 31 #[.int .i64 0, .int .i64 2] w fun e w' => e = .returned (.int .i64 0) ∧ w' = w := by
  have hi := kindIdx_0
  go_enter Try.func31, Try.ntmps31
  go_wp2
  go_ret
  exact ⟨rfl, rfl⟩
theorem kind_0_3 (w : World) : Calls Try.prog 31 #[.int .i64 0, .int .i64 3] w fun e w' => e = .returned (.int .i64 0) ∧ w' = w := by
  have hi := kindIdx_0
  go_enter Try.func31, Try.ntmps31
  go_wp2
  go_ret
  exact ⟨rfl, rfl⟩
theorem kind_1_0 (w : World) : Calls Try.prog 31 #[.int .i64 1, .int .i64 0] w fun e w' => e = .returned (.int .i64 1) ∧ w' = w := by
  have hi := kindIdx_1
  go_enter Try.func31, Try.ntmps31
  go_wp2
  go_ret
  exact ⟨rfl, rfl⟩
theorem kind_1_1 (w : World) : Calls Try.prog 31 #[.int .i64 1, .int .i64 1] w fun e w' => e = .returned (.int .i64 1) ∧ w' = w := by
  have hi := kindIdx_1
  go_enter Try.func31, Try.ntmps31
  go_wp2
  go_ret
  exact ⟨rfl, rfl⟩
theorem kind_1_2 (w : World) : Calls Try.prog 31 #[.int .i64 1, .int .i64 2] w fun e w' => e = .returned (.int .i64 0) ∧ w' = w := by
  have hi := kindIdx_1
  go_enter Try.func31, Try.ntmps31
  go_wp2
  go_ret
  exact ⟨rfl, rfl⟩
theorem kind_1_3 (w : World) : Calls Try.prog 31 #[.int .i64 1, .int .i64 3] w fun e w' => e = .returned (.int .i64 0) ∧ w' = w := by
  have hi := kindIdx_1
  go_enter Try.func31, Try.ntmps31
  go_wp2
  go_ret
  exact ⟨rfl, rfl⟩
theorem kind_2_0 (w : World) : Calls Try.prog 31 #[.int .i64 2, .int .i64 0] w fun e w' => e = .returned (.int .i64 2) ∧ w' = w := by
  have hi := kindIdx_2
  go_enter Try.func31, Try.ntmps31
  go_wp2
  go_ret
  exact ⟨rfl, rfl⟩
theorem kind_2_1 (w : World) : Calls Try.prog 31 #[.int .i64 2, .int .i64 1] w fun e w' => e = .returned (.int .i64 1) ∧ w' = w := by
  have hi := kindIdx_2
  go_enter Try.func31, Try.ntmps31
  go_wp2
  go_ret
  exact ⟨rfl, rfl⟩
theorem kind_2_2 (w : World) : Calls Try.prog 31 #[.int .i64 2, .int .i64 2] w fun e w' => e = .returned (.int .i64 1) ∧ w' = w := by
  have hi := kindIdx_2
  go_enter Try.func31, Try.ntmps31
  go_wp2
  go_ret
  exact ⟨rfl, rfl⟩
theorem kind_2_3 (w : World) : Calls Try.prog 31 #[.int .i64 2, .int .i64 3] w fun e w' => e = .returned (.int .i64 0) ∧ w' = w := by
  have hi := kindIdx_2
  go_enter Try.func31, Try.ntmps31
  go_wp2
  go_ret
  exact ⟨rfl, rfl⟩
theorem kind_3_0 (w : World) : Calls Try.prog 31 #[.int .i64 3, .int .i64 0] w fun e w' => e = .returned (.int .i64 1) ∧ w' = w := by
  have hi := kindIdx_3
  go_enter Try.func31, Try.ntmps31
  go_wp2
  go_ret
  exact ⟨rfl, rfl⟩
theorem kind_3_1 (w : World) : Calls Try.prog 31 #[.int .i64 3, .int .i64 1] w fun e w' => e = .returned (.int .i64 0) ∧ w' = w := by
  have hi := kindIdx_3
  go_enter Try.func31, Try.ntmps31
  go_wp2
  go_ret
  exact ⟨rfl, rfl⟩
theorem kind_3_2 (w : World) : Calls Try.prog 31 #[.int .i64 3, .int .i64 2] w fun e w' => e = .returned (.int .i64 0) ∧ w' = w := by
  have hi := kindIdx_3
  go_enter Try.func31, Try.ntmps31
  go_wp2
  go_ret
  exact ⟨rfl, rfl⟩
theorem kind_3_3 (w : World) : Calls Try.prog 31 #[.int .i64 3, .int .i64 3] w fun e w' => e = .returned (.int .i64 0) ∧ w' = w := by
  have hi := kindIdx_3
  go_enter Try.func31, Try.ntmps31
  go_wp2
  go_ret
  exact ⟨rfl, rfl⟩
theorem kind_4_0 (w : World) : Calls Try.prog 31 #[.int .i64 4, .int .i64 0] w fun e w' => e = .returned (.int .i64 2) ∧ w' = w := by
  have hi := kindIdx_4
  go_enter Try.func31, Try.ntmps31
  go_wp2
  go_ret
  exact ⟨rfl, rfl⟩
theorem kind_4_1 (w : World) : Calls Try.prog 31 #[.int .i64 4, .int .i64 1] w fun e w' => e = .returned (.int .i64 0) ∧ w' = w := by
  have hi := kindIdx_4
  go_enter Try.func31, Try.ntmps31
  go_wp2
  go_ret
  exact ⟨rfl, rfl⟩
theorem kind_4_2 (w : World) : Calls Try.prog 31 #[.int .i64 4, .int .i64 2] w fun e w' => e = .returned (.int .i64 0) ∧ w' = w := by
  have hi := kindIdx_4
  go_enter Try.func31, Try.ntmps31
  go_wp2
  go_ret
  exact ⟨rfl, rfl⟩
theorem kind_4_3 (w : World) : Calls Try.prog 31 #[.int .i64 4, .int .i64 3] w fun e w' => e = .returned (.int .i64 0) ∧ w' = w := by
  have hi := kindIdx_4
  go_enter Try.func31, Try.ntmps31
  go_wp2
  go_ret
  exact ⟨rfl, rfl⟩
theorem kind_5_0 (w : World) : Calls Try.prog 31 #[.int .i64 5, .int .i64 0] w fun e w' => e = .returned (.int .i64 2) ∧ w' = w := by
  have hi := kindIdx_5
  go_enter Try.func31, Try.ntmps31
  go_wp2
  go_ret
  exact ⟨rfl, rfl⟩
theorem kind_5_1 (w : World) : Calls Try.prog 31 #[.int .i64 5, .int .i64 1] w fun e w' => e = .returned (.int .i64 2) ∧ w' = w := by
  have hi := kindIdx_5
  go_enter Try.func31, Try.ntmps31
  go_wp2
  go_ret
  exact ⟨rfl, rfl⟩
theorem kind_5_2 (w : World) : Calls Try.prog 31 #[.int .i64 5, .int .i64 2] w fun e w' => e = .returned (.int .i64 0) ∧ w' = w := by
  have hi := kindIdx_5
  go_enter Try.func31, Try.ntmps31
  go_wp2
  go_ret
  exact ⟨rfl, rfl⟩
theorem kind_5_3 (w : World) : Calls Try.prog 31 #[.int .i64 5, .int .i64 3] w fun e w' => e = .returned (.int .i64 0) ∧ w' = w := by
  have hi := kindIdx_5
  go_enter Try.func31, Try.ntmps31
  go_wp2
  go_ret
  exact ⟨rfl, rfl⟩
theorem kind_6_0 (w : World) : Calls Try.prog 31 #[.int .i64 6, .int .i64 0] w fun e w' => e = .returned (.int .i64 1) ∧ w' = w := by
  have hi := kindIdx_6
  go_enter Try.func31, Try.ntmps31
  go_wp2
  go_ret
  exact ⟨rfl, rfl⟩
theorem kind_6_1 (w : World) : Calls Try.prog 31 #[.int .i64 6, .int .i64 1] w fun e w' => e = .returned (.int .i64 3) ∧ w' = w := by
  have hi := kindIdx_6
  go_enter Try.func31, Try.ntmps31
  go_wp2
  go_ret
  exact ⟨rfl, rfl⟩
theorem kind_6_2 (w : World) : Calls Try.prog 31 #[.int .i64 6, .int .i64 2] w fun e w' => e = .returned (.int .i64 0) ∧ w' = w := by
  have hi := kindIdx_6
  go_enter Try.func31, Try.ntmps31
  go_wp2
  go_ret
  exact ⟨rfl, rfl⟩
theorem kind_6_3 (w : World) : Calls Try.prog 31 #[.int .i64 6, .int .i64 3] w fun e w' => e = .returned (.int .i64 0) ∧ w' = w := by
  have hi := kindIdx_6
  go_enter Try.func31, Try.ntmps31
  go_wp2
  go_ret
  exact ⟨rfl, rfl⟩
theorem kind_7_0 (w : World) : Calls Try.prog 31 #[.int .i64 7, .int .i64 0] w fun e w' => e = .returned (.int .i64 2) ∧ w' = w := by
  have hi := kindIdx_7
  go_enter Try.func31, Try.ntmps31
  go_wp2
  go_ret
  exact ⟨rfl, rfl⟩
theorem kind_7_1 (w : World) : Calls Try.prog 31 #[.int .i64 7, .int .i64 1] w fun e w' => e = .returned (.int .i64 2) ∧ w' = w := by
  have hi := kindIdx_7
  go_enter Try.func31, Try.ntmps31
  go_wp2
  go_ret
  exact ⟨rfl, rfl⟩
theorem kind_7_2 (w : World) : Calls Try.prog 31 #[.int .i64 7, .int .i64 2] w fun e w' => e = .returned (.int .i64 1) ∧ w' = w := by
  have hi := kindIdx_7
  go_enter Try.func31, Try.ntmps31
  go_wp2
  go_ret
  exact ⟨rfl, rfl⟩
theorem kind_7_3 (w : World) : Calls Try.prog 31 #[.int .i64 7, .int .i64 3] w fun e w' => e = .returned (.int .i64 0) ∧ w' = w := by
  have hi := kindIdx_7
  go_enter Try.func31, Try.ntmps31
  go_wp2
  go_ret
  exact ⟨rfl, rfl⟩
theorem kind_8_0 (w : World) : Calls Try.prog 31 #[.int .i64 8, .int .i64 0] w fun e w' => e = .returned (.int .i64 1) ∧ w' = w := by
  have hi := kindIdx_8
  go_enter Try.func31, Try.ntmps31
  go_wp2
  go_ret
  exact ⟨rfl, rfl⟩
theorem kind_8_1 (w : World) : Calls Try.prog 31 #[.int .i64 8, .int .i64 1] w fun e w' => e = .returned (.int .i64 1) ∧ w' = w := by
  have hi := kindIdx_8
  go_enter Try.func31, Try.ntmps31
  go_wp2
  go_ret
  exact ⟨rfl, rfl⟩
theorem kind_8_2 (w : World) : Calls Try.prog 31 #[.int .i64 8, .int .i64 2] w fun e w' => e = .returned (.int .i64 3) ∧ w' = w := by
  have hi := kindIdx_8
  go_enter Try.func31, Try.ntmps31
  go_wp2
  go_ret
  exact ⟨rfl, rfl⟩
theorem kind_8_3 (w : World) : Calls Try.prog 31 #[.int .i64 8, .int .i64 3] w fun e w' => e = .returned (.int .i64 1) ∧ w' = w := by
  have hi := kindIdx_8
  go_enter Try.func31, Try.ntmps31
  go_wp2
  go_ret
  exact ⟨rfl, rfl⟩
theorem dkind_any (i k : Nat) (hi : i < 9) (hk : k < 4) (w : World) : Calls Try.prog 31 #[.int .i64 i, .int .i64 k] w fun e w' => e = .returned (.int .i64 (kindAt i k)) ∧ w' = w := by
  match i, hi, k, hk with
  | 0, _, 0, _ => exact kind_0_0 w
  | 0, _, 1, _ => exact kind_0_1 w
  | 0, _, 2, _ => exact kind_0_2 w
  | 0, _, 3, _ => exact kind_0_3 w
  | 1, _, 0, _ => exact kind_1_0 w
  | 1, _, 1, _ => exact kind_1_1 w
  | 1, _, 2, _ => exact kind_1_2 w
  | 1, _, 3, _ => exact kind_1_3 w
  | 2, _, 0, _ => exact kind_2_0 w
  | 2, _, 1, _ => exact kind_2_1 w
  | 2, _, 2, _ => exact kind_2_2 w
  | 2, _, 3, _ => exact kind_2_3 w
  | 3, _, 0, _ => exact kind_3_0 w
  | 3, _, 1, _ => exact kind_3_1 w
  | 3, _, 2, _ => exact kind_3_2 w
  | 3, _, 3, _ => exact kind_3_3 w
  | 4, _, 0, _ => exact kind_4_0 w
  | 4, _, 1, _ => exact kind_4_1 w
  | 4, _, 2, _ => exact kind_4_2 w
  | 4, _, 3, _ => exact kind_4_3 w
  | 5, _, 0, _ => exact kind_5_0 w
  | 5, _, 1, _ => exact kind_5_1 w
  | 5, _, 2, _ => exact kind_5_2 w
  | 5, _, 3, _ => exact kind_5_3 w
  | 6, _, 0, _ => exact kind_6_0 w
  | 6, _, 1, _ => exact kind_6_1 w
  | 6, _, 2, _ => exact kind_6_2 w
  | 6, _, 3, _ => exact kind_6_3 w
  | 7, _, 0, _ => exact kind_7_0 w
  | 7, _, 1, _ => exact kind_7_1 w
  | 7, _, 2, _ => exact kind_7_2 w
  | 7, _, 3, _ => exact kind_7_3 w
  | 8, _, 0, _ => exact kind_8_0 w
  | 8, _, 1, _ => exact kind_8_1 w
  | 8, _, 2, _ => exact kind_8_2 w
  | 8, _, 3, _ => exact kind_8_3 w

end Go.Proofs.Ytphkhfeofoadcab

/- The walk of the document's class. -/
namespace Go.Proofs.Ytphkhfeofoadcab.Gl
open Go.RowKit

/-- Where the class ends, or -1. -/
def rclassV (p : ByteArray) (t : Nat) : Int := match classR (p.extract t p.size) with
  | none => -1
  | some (_, n) => t + n
theorem rclassV_none {p : ByteArray} {t : Nat} (h : classR (p.extract t p.size) = none) : rclassV p t = -1 := by unfold rclassV; rw [h]
theorem rclassV_some {p : ByteArray} {t n : Nat} {f : Nat → Bool} (h : classR (p.extract t p.size) = some (f, n)) : rclassV p t = t + n := by unfold rclassV; rw [h]

theorem memberAt_extract (p : ByteArray) (t k : Nat) (ht : t ≤ p.size) (hk : t ≤ k) : memberAt (p.extract t p.size) (k - t) = memberN (p.size - k) (byteAt p k) (byteAt p (k + 1)) (byteAt p (k + 2)) := by
  unfold memberAt
  rw [size_extract, byteAt_extract p t _ ht, byteAt_extract p t _ ht, byteAt_extract p t _ ht, show t + (k - t) = k by omega, show t + (k - t + 1) = k + 1 by omega, show t + (k - t + 2) = k + 2 by omega, show p.size - t - (k - t) = p.size - k by omega]

/-- A member there, in absolute places. -/
theorem scan_member {p : ByteArray} {t k fu v : Nat} {f : Nat → Bool} (ht : t ≤ p.size) (hk : t ≤ k) (hlt : k < p.size) (hne : byteAt p k ≠ 93) (hm : memberN (p.size - k) (byteAt p k) (byteAt p (k + 1)) (byteAt p (k + 2)) = v) :
    (v = 0 → scan (fu + 1) (p.extract t p.size) (k - t) f = none) ∧ (v ≠ 0 → ∃ g, scan (fu + 1) (p.extract t p.size) (k - t) f = scan fu (p.extract t p.size) (k + v - t) g) := by
  have h1 : k - t < (p.extract t p.size).size ∧ byteAt (p.extract t p.size) (k - t) ≠ 93 := by
    rw [size_extract, byteAt_extract p t _ ht, show t + (k - t) = k by omega]
    exact ⟨by omega, hne⟩
  have h2 : memberAt (p.extract t p.size) (k - t) = v := (memberAt_extract p t k ht hk).trans hm
  constructor
  · intro hv
    rw [scan, if_pos h1, h2, if_pos hv]
  · intro hv
    rw [scan, if_pos h1, h2, if_neg hv, show k - t + v = k + v - t by omega]
    exact ⟨_, rfl⟩
theorem scan_stop {p : ByteArray} {t k fu : Nat} {f : Nat → Bool} (ht : t ≤ p.size) (hk : t ≤ k) (h : ¬ (k < p.size ∧ byteAt p k ≠ 93)) : scan (fu + 1) (p.extract t p.size) (k - t) f = some (k - t, f) := by
  rw [scan, if_neg]
  rw [size_extract, byteAt_extract p t _ ht, show t + (k - t) = k by omega]
  intro h'
  exact h ⟨by omega, h'.2⟩

set_option maxRecDepth 10000 in
set_option maxHeartbeats 1000000 in
theorem rclass_yes (p : ByteArray) (t : Nat) (_ht : t < p.size) (hz : p.size ≤ 1000) (hn : notB (p.extract t p.size) = true) (hlt1 : t + 1 < p.size) (b1 : ((byteAt p (t + 1) : Int) == 33) = true) (w : World) :
    Calls Try.prog 50 #[.string p, .int .i64 t] w fun e w' => e = .returned (.int .i64 (rclassV p t)) ∧ w' = w := by
  have hB : classBegin (p.extract t p.size) = 2 := by unfold classBegin; rw [hn]; rfl
  have hC : classR (p.extract t p.size) = classFin true 2 (p.size - t) (scan (p.size - t + 1) (p.extract t p.size) 2 fun _ => false) := by unfold classR; rw [hn, hB, size_extract]
  have HC := hide hC
  clear hC hB hn
  have e1 := byteAt_eq p (t + 1) hlt1
  have d0 : decide ((t : Int) + 1 < (p.size : Int)) = true := by simp; omega
  · skip
    go_enter Try.func50, Try.ntmps50
    go_wp2_with fail
    go_loop [5, 6] (fun i c => ∃ (k : Nat) (f : Nat → Bool) (cnt fuel : Nat), t ≤ k ∧ k ≤ p.size ∧ i = .int .i64 k ∧ c = .int .i64 cnt ∧ cnt + t + 2 ≤ k ∧ (cnt = 0 ↔ k = t + 2) ∧ p.size - k < fuel ∧ scan fuel (p.extract t p.size) (k - t) f = scan (p.size - t + 1) (p.extract t p.size) 2 (fun _ => false)) (fun i _ => p.size - (intOf i).toNat)
    case atStart => exact ⟨t + 2, fun _ => false, 0, p.size - t + 1, by omega, by omega, by go_num, rfl, by omega, by simp, by omega, by rw [show t + 2 - t = 2 by omega]⟩
    case round =>
      obtain ⟨k, f, cnt, fuel, hk1, hk2, rfl, rfl, hcnt, hcz, hfuel, hsc⟩ := hrel
      obtain ⟨fu, rfl⟩ : ∃ fu, fuel = fu + 1 := ⟨fuel - 1, by omega⟩
      have Hsc := hide hsc
      have Hcz := hide hcz
      clear hsc hcz
      by_cases hgo : k < p.size ∧ byteAt p k ≠ 93
      · obtain ⟨hlt, hne⟩ := hgo
        have ek := byteAt_eq p k hlt
        have bk : (((byteAt p k : Nat) : Int) != 93) = true := by rw [bne_iff_ne]; omega
        have dk : decide ((k : Int) < (p.size : Int)) = true := by simp; omega
        cases n0 : nameB (byteAt p k)
        · have hm : memberN (p.size - k) (byteAt p k) (byteAt p (k + 1)) (byteAt p (k + 2)) = 0 := by unfold memberN; rw [if_neg (by rw [n0]; simp)]
          have HV := hide (rclassV_none (by rw [HC.out, ← Hsc.out, (scan_member (by omega) hk1 hlt hne hm).1 rfl]; rfl))
          clear HC Hsc hm
          go_wp2_with (go_at_call 54; refine (letter_any _ _).mono ?_; rintro e w' ⟨rfl, rfl⟩)
          go_ret
          exact ⟨ret_int (by rw [HV.out]), rfl⟩
        · by_cases h1 : k + 1 < p.size
          · have d1 : decide ((k : Int) + 1 < (p.size : Int)) = true := by simp; omega
            have e1 := byteAt_eq p (k + 1) h1
            by_cases h45 : byteAt p (k + 1) = 45
            · have b45 : (((byteAt p (k + 1) : Nat) : Int) == 45) = true := by rw [beq_iff_eq]; omega
              by_cases h2 : k + 2 < p.size
              · have b2 : ((k : Int) + 1 + 1 == (p.size : Int)) = false := by rw [beq_eq_false_iff_ne]; omega
                have b2' : ((k : Int) + 2 == (p.size : Int)) = false := by rw [beq_eq_false_iff_ne]; omega
                have e2 := byteAt_eq p (k + 2) h2
                cases n2 : nameB (byteAt p (k + 2))
                · have hm : memberN (p.size - k) (byteAt p k) (byteAt p (k + 1)) (byteAt p (k + 2)) = 0 := by unfold memberN; rw [if_pos n0, if_neg (by omega), if_pos h45, if_neg (by omega), if_neg (by rw [n2]; simp)]
                  clear h45
                  have HV := hide (rclassV_none (by rw [HC.out, ← Hsc.out, (scan_member (by omega) hk1 hlt hne hm).1 rfl]; rfl))
                  clear HC Hsc hm
                  go_wp2_with (go_at_call 54; refine (letter_any _ _).mono ?_; rintro e w' ⟨rfl, rfl⟩)
                  go_ret
                  exact ⟨ret_int (by rw [HV.out]), rfl⟩
                · by_cases hlo : byteAt p (k + 2) < byteAt p k
                  · have dl : decide ((byteAt p (k + 2) : Int) < (byteAt p k : Int)) = true := by simp; omega
                    have hm : memberN (p.size - k) (byteAt p k) (byteAt p (k + 1)) (byteAt p (k + 2)) = 0 := by unfold memberN; rw [if_pos n0, if_neg (by omega), if_pos h45, if_neg (by omega), if_pos n2, if_pos hlo]
                    clear h45
                    have HV := hide (rclassV_none (by rw [HC.out, ← Hsc.out, (scan_member (by omega) hk1 hlt hne hm).1 rfl]; rfl))
                    clear HC Hsc hm
                    go_wp2_with (go_at_call 54; refine (letter_any _ _).mono ?_; rintro e w' ⟨rfl, rfl⟩)
                    go_ret
                    exact ⟨ret_int (by rw [HV.out]), rfl⟩
                  · have dl : decide ((byteAt p (k + 2) : Int) < (byteAt p k : Int)) = false := by simp; omega
                    have hm : memberN (p.size - k) (byteAt p k) (byteAt p (k + 1)) (byteAt p (k + 2)) = 3 := by unfold memberN; rw [if_pos n0, if_neg (by omega), if_pos h45, if_neg (by omega), if_pos n2, if_neg hlo]
                    clear h45
                    obtain ⟨g, hg⟩ := (scan_member (fu := fu) (f := f) (by omega) hk1 hlt hne hm).2 (by omega)
                    have HG := hide (hg.symm.trans Hsc.out)
                    clear hg HC Hsc hm
                    go_wp2_with (go_at_call 54; refine (letter_any _ _).mono ?_; rintro e w' ⟨rfl, rfl⟩)
                    go_round
                    case rel => exact ⟨k + 3, g, cnt + 1, fu, by omega, by omega, by go_num, by go_num, by omega, by omega, by omega, HG.out⟩
                    case measure => simp [intOf]; omega
              · have b2 : ((k : Int) + 1 + 1 == (p.size : Int)) = true := by rw [beq_iff_eq]; omega
                have b2' : ((k : Int) + 2 == (p.size : Int)) = true := by rw [beq_iff_eq]; omega
                have hm : memberN (p.size - k) (byteAt p k) (byteAt p (k + 1)) (byteAt p (k + 2)) = 0 := by unfold memberN; rw [if_pos n0, if_neg (by omega), if_pos h45, if_pos (by omega)]
                clear h45
                have HV := hide (rclassV_none (by rw [HC.out, ← Hsc.out, (scan_member (by omega) hk1 hlt hne hm).1 rfl]; rfl))
                clear HC Hsc hm
                go_wp2_with (go_at_call 54; refine (letter_any _ _).mono ?_; rintro e w' ⟨rfl, rfl⟩)
                go_ret
                exact ⟨ret_int (by rw [HV.out]), rfl⟩
            · have b45 : (((byteAt p (k + 1) : Nat) : Int) == 45) = false := by rw [beq_eq_false_iff_ne]; omega
              have hm : memberN (p.size - k) (byteAt p k) (byteAt p (k + 1)) (byteAt p (k + 2)) = 1 := by unfold memberN; rw [if_pos n0, if_neg (by omega), if_neg h45]
              clear h45
              obtain ⟨g, hg⟩ := (scan_member (fu := fu) (f := f) (by omega) hk1 hlt hne hm).2 (by omega)
              have HG := hide (hg.symm.trans Hsc.out)
              clear hg HC Hsc hm
              go_wp2_with (go_at_call 54; refine (letter_any _ _).mono ?_; rintro e w' ⟨rfl, rfl⟩)
              go_round
              case rel => exact ⟨k + 1, g, cnt + 1, fu, by omega, by omega, by go_num, by go_num, by omega, by omega, by omega, HG.out⟩
              case measure => simp [intOf]; omega
          · have d1 : decide ((k : Int) + 1 < (p.size : Int)) = false := by simp; omega
            have hm : memberN (p.size - k) (byteAt p k) (byteAt p (k + 1)) (byteAt p (k + 2)) = 1 := by unfold memberN; rw [if_pos n0, if_pos (by omega)]
            obtain ⟨g, hg⟩ := (scan_member (fu := fu) (f := f) (by omega) hk1 hlt hne hm).2 (by omega)
            have HG := hide (hg.symm.trans Hsc.out)
            clear hg HC Hsc hm
            go_wp2_with (go_at_call 54; refine (letter_any _ _).mono ?_; rintro e w' ⟨rfl, rfl⟩)
            go_round
            case rel => exact ⟨k + 1, g, cnt + 1, fu, by omega, by omega, by go_num, by go_num, by omega, by omega, by omega, HG.out⟩
            case measure => simp [intOf]; omega
      · have hst := scan_stop (fu := fu) (f := f) (by omega) hk1 hgo
        have hR0 : classR (p.extract t p.size) = classFin true 2 (p.size - t) (some (k - t, f)) := by rw [HC.out, ← Hsc.out, hst]
        clear HC Hsc hst
        by_cases hend : k = p.size
        · have HV := hide (rclassV_none (by rw [hR0]; simp [classFin, hend]))
          have dk : decide ((k : Int) < (p.size : Int)) = false := by simp; omega
          have be : ((k : Int) == (p.size : Int)) = true := by rw [beq_iff_eq]; omega
          clear hR0 hend hgo
          go_wp2_with fail
          go_ret
          exact ⟨ret_int (by rw [HV.out]), rfl⟩
        · have hlt : k < p.size := by omega
          have h93 : byteAt p k = 93 := Decidable.byContradiction fun h => hgo ⟨hlt, h⟩
          have ek := byteAt_eq p k hlt
          have bk : (((byteAt p k : Nat) : Int) != 93) = false := by rw [bne_eq_false_iff_eq]; omega
          have dk : decide ((k : Int) < (p.size : Int)) = true := by simp; omega
          have be : ((k : Int) == (p.size : Int)) = false := by rw [beq_eq_false_iff_ne]; omega
          clear hgo h93
          by_cases hb : cnt = 0
          · have hkb := Hcz.out.1 hb
            have HV := hide (rclassV_none (by rw [hR0]; simp [classFin, hkb]))
            have bc : ((cnt : Int) == 0) = true := by rw [beq_iff_eq]; omega
            clear hR0 hb hend hkb
            go_wp2_with fail
            go_ret
            exact ⟨ret_int (by rw [HV.out]), rfl⟩
          · have hkb : ¬ k = t + 2 := fun h => hb (Hcz.out.2 h)
            have HV := hide (rclassV_some (p := p) (t := t) (n := k - t + 1) (f := upd (if true = true then fun i => !f i else f) 47 false) (by rw [hR0]; simp only [classFin]; rw [if_neg (by omega)]))
            have bc : ((cnt : Int) == 0) = false := by rw [beq_eq_false_iff_ne]; omega
            clear hR0 hb hend hkb
            go_wp2_with fail
            go_ret
            exact ⟨ret_int (by rw [HV.out]; omega), rfl⟩

set_option maxRecDepth 10000 in
set_option maxHeartbeats 1000000 in
theorem rclass_no (p : ByteArray) (t : Nat) (_ht : t < p.size) (hz : p.size ≤ 1000) (hn : notB (p.extract t p.size) = false) (hlt1 : t + 1 < p.size) (b1 : ((byteAt p (t + 1) : Int) == 33) = false) (w : World) :
    Calls Try.prog 50 #[.string p, .int .i64 t] w fun e w' => e = .returned (.int .i64 (rclassV p t)) ∧ w' = w := by
  have hB : classBegin (p.extract t p.size) = 1 := by unfold classBegin; rw [hn]; rfl
  have hC : classR (p.extract t p.size) = classFin false 1 (p.size - t) (scan (p.size - t + 1) (p.extract t p.size) 1 fun _ => false) := by unfold classR; rw [hn, hB, size_extract]
  have HC := hide hC
  clear hC hB hn
  have e1 := byteAt_eq p (t + 1) hlt1
  have d0 : decide ((t : Int) + 1 < (p.size : Int)) = true := by simp; omega
  · skip
    go_enter Try.func50, Try.ntmps50
    go_wp2_with fail
    go_loop [5, 6] (fun i c => ∃ (k : Nat) (f : Nat → Bool) (cnt fuel : Nat), t ≤ k ∧ k ≤ p.size ∧ i = .int .i64 k ∧ c = .int .i64 cnt ∧ cnt + t + 1 ≤ k ∧ (cnt = 0 ↔ k = t + 1) ∧ p.size - k < fuel ∧ scan fuel (p.extract t p.size) (k - t) f = scan (p.size - t + 1) (p.extract t p.size) 1 (fun _ => false)) (fun i _ => p.size - (intOf i).toNat)
    case atStart => exact ⟨t + 1, fun _ => false, 0, p.size - t + 1, by omega, by omega, by go_num, rfl, by omega, by simp, by omega, by rw [show t + 1 - t = 1 by omega]⟩
    case round =>
      obtain ⟨k, f, cnt, fuel, hk1, hk2, rfl, rfl, hcnt, hcz, hfuel, hsc⟩ := hrel
      obtain ⟨fu, rfl⟩ : ∃ fu, fuel = fu + 1 := ⟨fuel - 1, by omega⟩
      have Hsc := hide hsc
      have Hcz := hide hcz
      clear hsc hcz
      by_cases hgo : k < p.size ∧ byteAt p k ≠ 93
      · obtain ⟨hlt, hne⟩ := hgo
        have ek := byteAt_eq p k hlt
        have bk : (((byteAt p k : Nat) : Int) != 93) = true := by rw [bne_iff_ne]; omega
        have dk : decide ((k : Int) < (p.size : Int)) = true := by simp; omega
        cases n0 : nameB (byteAt p k)
        · have hm : memberN (p.size - k) (byteAt p k) (byteAt p (k + 1)) (byteAt p (k + 2)) = 0 := by unfold memberN; rw [if_neg (by rw [n0]; simp)]
          have HV := hide (rclassV_none (by rw [HC.out, ← Hsc.out, (scan_member (by omega) hk1 hlt hne hm).1 rfl]; rfl))
          clear HC Hsc hm
          go_wp2_with (go_at_call 54; refine (letter_any _ _).mono ?_; rintro e w' ⟨rfl, rfl⟩)
          go_ret
          exact ⟨ret_int (by rw [HV.out]), rfl⟩
        · by_cases h1 : k + 1 < p.size
          · have d1 : decide ((k : Int) + 1 < (p.size : Int)) = true := by simp; omega
            have e1 := byteAt_eq p (k + 1) h1
            by_cases h45 : byteAt p (k + 1) = 45
            · have b45 : (((byteAt p (k + 1) : Nat) : Int) == 45) = true := by rw [beq_iff_eq]; omega
              by_cases h2 : k + 2 < p.size
              · have b2 : ((k : Int) + 1 + 1 == (p.size : Int)) = false := by rw [beq_eq_false_iff_ne]; omega
                have b2' : ((k : Int) + 2 == (p.size : Int)) = false := by rw [beq_eq_false_iff_ne]; omega
                have e2 := byteAt_eq p (k + 2) h2
                cases n2 : nameB (byteAt p (k + 2))
                · have hm : memberN (p.size - k) (byteAt p k) (byteAt p (k + 1)) (byteAt p (k + 2)) = 0 := by unfold memberN; rw [if_pos n0, if_neg (by omega), if_pos h45, if_neg (by omega), if_neg (by rw [n2]; simp)]
                  clear h45
                  have HV := hide (rclassV_none (by rw [HC.out, ← Hsc.out, (scan_member (by omega) hk1 hlt hne hm).1 rfl]; rfl))
                  clear HC Hsc hm
                  go_wp2_with (go_at_call 54; refine (letter_any _ _).mono ?_; rintro e w' ⟨rfl, rfl⟩)
                  go_ret
                  exact ⟨ret_int (by rw [HV.out]), rfl⟩
                · by_cases hlo : byteAt p (k + 2) < byteAt p k
                  · have dl : decide ((byteAt p (k + 2) : Int) < (byteAt p k : Int)) = true := by simp; omega
                    have hm : memberN (p.size - k) (byteAt p k) (byteAt p (k + 1)) (byteAt p (k + 2)) = 0 := by unfold memberN; rw [if_pos n0, if_neg (by omega), if_pos h45, if_neg (by omega), if_pos n2, if_pos hlo]
                    clear h45
                    have HV := hide (rclassV_none (by rw [HC.out, ← Hsc.out, (scan_member (by omega) hk1 hlt hne hm).1 rfl]; rfl))
                    clear HC Hsc hm
                    go_wp2_with (go_at_call 54; refine (letter_any _ _).mono ?_; rintro e w' ⟨rfl, rfl⟩)
                    go_ret
                    exact ⟨ret_int (by rw [HV.out]), rfl⟩
                  · have dl : decide ((byteAt p (k + 2) : Int) < (byteAt p k : Int)) = false := by simp; omega
                    have hm : memberN (p.size - k) (byteAt p k) (byteAt p (k + 1)) (byteAt p (k + 2)) = 3 := by unfold memberN; rw [if_pos n0, if_neg (by omega), if_pos h45, if_neg (by omega), if_pos n2, if_neg hlo]
                    clear h45
                    obtain ⟨g, hg⟩ := (scan_member (fu := fu) (f := f) (by omega) hk1 hlt hne hm).2 (by omega)
                    have HG := hide (hg.symm.trans Hsc.out)
                    clear hg HC Hsc hm
                    go_wp2_with (go_at_call 54; refine (letter_any _ _).mono ?_; rintro e w' ⟨rfl, rfl⟩)
                    go_round
                    case rel => exact ⟨k + 3, g, cnt + 1, fu, by omega, by omega, by go_num, by go_num, by omega, by omega, by omega, HG.out⟩
                    case measure => simp [intOf]; omega
              · have b2 : ((k : Int) + 1 + 1 == (p.size : Int)) = true := by rw [beq_iff_eq]; omega
                have b2' : ((k : Int) + 2 == (p.size : Int)) = true := by rw [beq_iff_eq]; omega
                have hm : memberN (p.size - k) (byteAt p k) (byteAt p (k + 1)) (byteAt p (k + 2)) = 0 := by unfold memberN; rw [if_pos n0, if_neg (by omega), if_pos h45, if_pos (by omega)]
                clear h45
                have HV := hide (rclassV_none (by rw [HC.out, ← Hsc.out, (scan_member (by omega) hk1 hlt hne hm).1 rfl]; rfl))
                clear HC Hsc hm
                go_wp2_with (go_at_call 54; refine (letter_any _ _).mono ?_; rintro e w' ⟨rfl, rfl⟩)
                go_ret
                exact ⟨ret_int (by rw [HV.out]), rfl⟩
            · have b45 : (((byteAt p (k + 1) : Nat) : Int) == 45) = false := by rw [beq_eq_false_iff_ne]; omega
              have hm : memberN (p.size - k) (byteAt p k) (byteAt p (k + 1)) (byteAt p (k + 2)) = 1 := by unfold memberN; rw [if_pos n0, if_neg (by omega), if_neg h45]
              clear h45
              obtain ⟨g, hg⟩ := (scan_member (fu := fu) (f := f) (by omega) hk1 hlt hne hm).2 (by omega)
              have HG := hide (hg.symm.trans Hsc.out)
              clear hg HC Hsc hm
              go_wp2_with (go_at_call 54; refine (letter_any _ _).mono ?_; rintro e w' ⟨rfl, rfl⟩)
              go_round
              case rel => exact ⟨k + 1, g, cnt + 1, fu, by omega, by omega, by go_num, by go_num, by omega, by omega, by omega, HG.out⟩
              case measure => simp [intOf]; omega
          · have d1 : decide ((k : Int) + 1 < (p.size : Int)) = false := by simp; omega
            have hm : memberN (p.size - k) (byteAt p k) (byteAt p (k + 1)) (byteAt p (k + 2)) = 1 := by unfold memberN; rw [if_pos n0, if_pos (by omega)]
            obtain ⟨g, hg⟩ := (scan_member (fu := fu) (f := f) (by omega) hk1 hlt hne hm).2 (by omega)
            have HG := hide (hg.symm.trans Hsc.out)
            clear hg HC Hsc hm
            go_wp2_with (go_at_call 54; refine (letter_any _ _).mono ?_; rintro e w' ⟨rfl, rfl⟩)
            go_round
            case rel => exact ⟨k + 1, g, cnt + 1, fu, by omega, by omega, by go_num, by go_num, by omega, by omega, by omega, HG.out⟩
            case measure => simp [intOf]; omega
      · have hst := scan_stop (fu := fu) (f := f) (by omega) hk1 hgo
        have hR0 : classR (p.extract t p.size) = classFin false 1 (p.size - t) (some (k - t, f)) := by rw [HC.out, ← Hsc.out, hst]
        clear HC Hsc hst
        by_cases hend : k = p.size
        · have HV := hide (rclassV_none (by rw [hR0]; simp [classFin, hend]))
          have dk : decide ((k : Int) < (p.size : Int)) = false := by simp; omega
          have be : ((k : Int) == (p.size : Int)) = true := by rw [beq_iff_eq]; omega
          clear hR0 hend hgo
          go_wp2_with fail
          go_ret
          exact ⟨ret_int (by rw [HV.out]), rfl⟩
        · have hlt : k < p.size := by omega
          have h93 : byteAt p k = 93 := Decidable.byContradiction fun h => hgo ⟨hlt, h⟩
          have ek := byteAt_eq p k hlt
          have bk : (((byteAt p k : Nat) : Int) != 93) = false := by rw [bne_eq_false_iff_eq]; omega
          have dk : decide ((k : Int) < (p.size : Int)) = true := by simp; omega
          have be : ((k : Int) == (p.size : Int)) = false := by rw [beq_eq_false_iff_ne]; omega
          clear hgo h93
          by_cases hb : cnt = 0
          · have hkb := Hcz.out.1 hb
            have HV := hide (rclassV_none (by rw [hR0]; simp [classFin, hkb]))
            have bc : ((cnt : Int) == 0) = true := by rw [beq_iff_eq]; omega
            clear hR0 hb hend hkb
            go_wp2_with fail
            go_ret
            exact ⟨ret_int (by rw [HV.out]), rfl⟩
          · have hkb : ¬ k = t + 1 := fun h => hb (Hcz.out.2 h)
            have HV := hide (rclassV_some (p := p) (t := t) (n := k - t + 1) (f := upd (if false = true then fun i => !f i else f) 47 false) (by rw [hR0]; simp only [classFin]; rw [if_neg (by omega)]))
            have bc : ((cnt : Int) == 0) = false := by rw [beq_eq_false_iff_ne]; omega
            clear hR0 hb hend hkb
            go_wp2_with fail
            go_ret
            exact ⟨ret_int (by rw [HV.out]; omega), rfl⟩

set_option maxRecDepth 10000 in
set_option maxHeartbeats 1000000 in
theorem rclass_end (p : ByteArray) (t : Nat) (_ht : t < p.size) (hz : p.size ≤ 1000) (hn : notB (p.extract t p.size) = false) (hlt1 : ¬ t + 1 < p.size) (w : World) :
    Calls Try.prog 50 #[.string p, .int .i64 t] w fun e w' => e = .returned (.int .i64 (rclassV p t)) ∧ w' = w := by
  have hB : classBegin (p.extract t p.size) = 1 := by unfold classBegin; rw [hn]; rfl
  have hC : classR (p.extract t p.size) = classFin false 1 (p.size - t) (scan (p.size - t + 1) (p.extract t p.size) 1 fun _ => false) := by unfold classR; rw [hn, hB, size_extract]
  have HC := hide hC
  clear hC hB hn
  have d0 : decide ((t : Int) + 1 < (p.size : Int)) = false := by simp; omega
  · skip
    go_enter Try.func50, Try.ntmps50
    go_wp2_with fail
    go_loop [5, 6] (fun i c => ∃ (k : Nat) (f : Nat → Bool) (cnt fuel : Nat), t ≤ k ∧ k ≤ p.size ∧ i = .int .i64 k ∧ c = .int .i64 cnt ∧ cnt + t + 1 ≤ k ∧ (cnt = 0 ↔ k = t + 1) ∧ p.size - k < fuel ∧ scan fuel (p.extract t p.size) (k - t) f = scan (p.size - t + 1) (p.extract t p.size) 1 (fun _ => false)) (fun i _ => p.size - (intOf i).toNat)
    case atStart => exact ⟨t + 1, fun _ => false, 0, p.size - t + 1, by omega, by omega, by go_num, rfl, by omega, by simp, by omega, by rw [show t + 1 - t = 1 by omega]⟩
    case round =>
      obtain ⟨k, f, cnt, fuel, hk1, hk2, rfl, rfl, hcnt, hcz, hfuel, hsc⟩ := hrel
      obtain ⟨fu, rfl⟩ : ∃ fu, fuel = fu + 1 := ⟨fuel - 1, by omega⟩
      have Hsc := hide hsc
      have Hcz := hide hcz
      clear hsc hcz
      by_cases hgo : k < p.size ∧ byteAt p k ≠ 93
      · exfalso; omega
      · have hst := scan_stop (fu := fu) (f := f) (by omega) hk1 hgo
        have hR0 : classR (p.extract t p.size) = classFin false 1 (p.size - t) (some (k - t, f)) := by rw [HC.out, ← Hsc.out, hst]
        clear HC Hsc hst
        by_cases hend : k = p.size
        · have HV := hide (rclassV_none (by rw [hR0]; simp [classFin, hend]))
          have dk : decide ((k : Int) < (p.size : Int)) = false := by simp; omega
          have be : ((k : Int) == (p.size : Int)) = true := by rw [beq_iff_eq]; omega
          clear hR0 hend hgo
          go_wp2_with fail
          go_ret
          exact ⟨ret_int (by rw [HV.out]), rfl⟩
        · have hlt : k < p.size := by omega
          have h93 : byteAt p k = 93 := Decidable.byContradiction fun h => hgo ⟨hlt, h⟩
          have ek := byteAt_eq p k hlt
          have bk : (((byteAt p k : Nat) : Int) != 93) = false := by rw [bne_eq_false_iff_eq]; omega
          have dk : decide ((k : Int) < (p.size : Int)) = true := by simp; omega
          have be : ((k : Int) == (p.size : Int)) = false := by rw [beq_eq_false_iff_ne]; omega
          clear hgo h93
          by_cases hb : cnt = 0
          · have hkb := Hcz.out.1 hb
            have HV := hide (rclassV_none (by rw [hR0]; simp [classFin, hkb]))
            have bc : ((cnt : Int) == 0) = true := by rw [beq_iff_eq]; omega
            clear hR0 hb hend hkb
            go_wp2_with fail
            go_ret
            exact ⟨ret_int (by rw [HV.out]), rfl⟩
          · have hkb : ¬ k = t + 1 := fun h => hb (Hcz.out.2 h)
            have HV := hide (rclassV_some (p := p) (t := t) (n := k - t + 1) (f := upd (if false = true then fun i => !f i else f) 47 false) (by rw [hR0]; simp only [classFin]; rw [if_neg (by omega)]))
            have bc : ((cnt : Int) == 0) = false := by rw [beq_eq_false_iff_ne]; omega
            clear hR0 hb hend hkb
            go_wp2_with fail
            go_ret
            exact ⟨ret_int (by rw [HV.out]; omega), rfl⟩

theorem rclass_any (p : ByteArray) (t : Nat) (ht : t < p.size) (hz : p.size ≤ 1000) (w : World) :
    Calls Try.prog 50 #[.string p, .int .i64 t] w fun e w' => e = .returned (.int .i64 (rclassV p t)) ∧ w' = w := by
  have h : notB (p.extract t p.size) = (decide (1 < p.size - t) && byteAt p (t + 1) == 33) := by unfold notB; rw [size_extract, byteAt_extract p t 1 (by omega)]
  cases hn : notB (p.extract t p.size)
  · by_cases hlt : t + 1 < p.size
    · rw [hn] at h
      refine rclass_no p t ht hz hn hlt ?_ w
      rw [beq_eq_false_iff_ne]
      intro h33
      rw [show byteAt p (t + 1) = 33 by omega] at h
      simp at h
      omega
    · exact rclass_end p t ht hz hn hlt w
  · rw [hn] at h
    have h' := h.symm
    simp at h'
    exact rclass_yes p t ht hz hn (by omega) (by rw [beq_iff_eq]; omega) w
end Go.Proofs.Ytphkhfeofoadcab.Gl

/- The walk of the document's single. -/
namespace Go.Proofs.Ytphkhfeofoadcab.Gl
open Go.RowKit

theorem scan_inv {fu : Nat} {s : ByteArray} {i e : Nat} {g fe : Nat → Bool} (h : scan (fu + 1) s i g = some (e, fe)) :
    (i = e ∧ g = fe ∧ ¬ (i < s.size ∧ byteAt s i ≠ 93)) ∨ (i < s.size ∧ byteAt s i ≠ 93 ∧ memberAt s i ≠ 0 ∧ scan fu s (i + memberAt s i) (addRange g (byteAt s i) (byteAt s (i + memberAt s i - 1))) = some (e, fe)) := by
  rw [scan] at h
  split at h
  · rename_i hc
    split at h
    · simp at h
    · rename_i hm
      exact .inr ⟨hc.1, hc.2, hm, h⟩
  · rename_i hc
    simp only [Option.some.injEq, Prod.mk.injEq] at h
    exact .inl ⟨h.1, h.2, hc⟩
theorem scan_ge : ∀ (k : Nat) (s : ByteArray) (i : Nat) (g : Nat → Bool) (e : Nat) (fe : Nat → Bool), scan k s i g = some (e, fe) → i ≤ e ∧ ¬ (e < s.size ∧ byteAt s e ≠ 93)
  | 0, _, _, _, _, _, h => by simp [scan] at h
  | k + 1, s, i, g, e, fe, h => by
    rcases scan_inv h with ⟨rfl, _, hn⟩ | ⟨_, _, _, h'⟩
    · exact ⟨Nat.le_refl _, hn⟩
    · have := scan_ge k s _ _ e fe h'
      exact ⟨by omega, this.2⟩

/-- What is known of a class that is one. -/
theorem classR_some {s : ByteArray} {f : Nat → Bool} {n : Nat} (hs : 1 ≤ s.size) (h : classR s = some (f, n)) :
    ∃ e fe, scan (s.size + 1) s (classBegin s) (fun _ => false) = some (e, fe) ∧ n = e + 1 ∧ classBegin s < e ∧ e < s.size ∧ byteAt s e = 93 ∧ f = upd (if notB s = true then fun i => !fe i else fe) 47 false := by
  unfold classR at h
  cases hsc : scan (s.size + 1) s (classBegin s) fun _ => false with
  | none => simp [hsc, classFin] at h
  | some y =>
    obtain ⟨e, fe⟩ := y
    have hb : classBegin s ≤ s.size := by
      unfold classBegin notB
      split
      · rename_i hh; simp at hh; omega
      · omega
    have h1 := scan_le _ _ _ _ _ _ hb hsc
    have h2 := scan_ge _ _ _ _ _ _ hsc
    simp only [hsc, classFin] at h
    split at h
    · simp at h
    · rename_i hne
      simp only [Option.some.injEq, Prod.mk.injEq] at h
      have hlt : e < s.size := by omega
      refine ⟨e, fe, rfl, h.2.symm, by omega, hlt, ?_, h.1.symm⟩
      exact Decidable.byContradiction fun h93 => h2.2 ⟨hlt, h93⟩

/-- A member's length, told by the byte behind it. -/
theorem memberAt_dash {s : ByteArray} {i : Nat} (h : memberAt s i ≠ 0) (hlt : i + 1 < s.size) : (byteAt s (i + 1) = 45 ∧ memberAt s i = 3 ∧ i + 2 < s.size) ∨ (byteAt s (i + 1) ≠ 45 ∧ memberAt s i = 1) := by
  unfold memberAt memberN at h ⊢
  by_cases h45 : byteAt s (i + 1) = 45
  · left
    by_cases a : nameB (byteAt s i) = true <;> by_cases b : s.size - i < 2 <;> by_cases c : s.size - i < 3 <;> by_cases d : nameB (byteAt s (i + 2)) = true <;> by_cases e : byteAt s (i + 2) < byteAt s i <;> simp [a, b, c, d, e, h45] at h ⊢ <;> omega
  · right
    by_cases a : nameB (byteAt s i) = true <;> by_cases b : s.size - i < 2 <;> simp [a, b, h45] at h ⊢ <;> omega

theorem upd_47 (g : Nat → Bool) (c : Nat) : upd g 47 false c = (g c && c != 47) := by
  unfold upd
  by_cases h : c = 47
  · simp [h]
  · simp [h]

end Go.Proofs.Ytphkhfeofoadcab.Gl
