/- read: the laws. -/
import Derived.Test.YtbifjokfnahiaabGreatDoorK18
namespace Go.Proofs.YtbifjokfnahiaabGreatDoor
open Go.RowKit Go.Sort

theorem readConds_ok : ∀ (n : Nat) (l : List W8), ∀ c ∈ readConds n l, CdOk c
  | 0, _, c, h => by cases h
  | n + 1, l, c, h => by
    rw [readConds] at h
    split at h
    · cases h
    · rcases List.mem_cons.1 h with rfl | h
      · exact readCond_ok _
      · exact readConds_ok n _ c h
theorem readRule_ok (line : W8) : RlOk (readRule line) := ⟨findCall_ok _, readConds_ok _ _, readAct_ok _⟩
theorem readP_ok (s : W8) : PlOk (readP s) := ⟨fun r hr => by
  unfold readP at hr
  obtain ⟨l, _, rfl⟩ := List.mem_map.1 hr
  exact readRule_ok l, readAct_ok _⟩

/-- A rule that was read, and where its conds lie. -/
abbrev RE := RL × Option Addr × Nat
def ruleE (e : RE) : Array Value := ruleC e.1.nr (.slice e.2.1 e.1.conds.length e.2.2) e.1.act
def flatR (es : List RE) : List Value := es.flatMap fun e => (ruleE e).toList
theorem flatR_snoc (es : List RE) (e : RE) : flatR (es ++ [e]) = flatR es ++ (ruleE e).toList := by simp [flatR]
theorem flatR_get : ∀ (es : List RE) (i : Nat) (e : RE) (j : Nat), es[i]? = some e → j < 4 → (flatR es)[i * 4 + j]? = (ruleE e).toList[j]?
  | [], i, e, j, h, _ => by simp at h
  | x :: r, 0, e, j, h, hj => by
    simp only [List.getElem?_cons_zero, Option.some.injEq] at h
    subst h
    simp only [flatR, List.flatMap_cons]
    rw [List.getElem?_append_left (by rw [show (ruleE x).toList.length = 4 from rfl]; omega)]
    congr 1
    omega
  | x :: r, i + 1, e, j, h, hj => by
    rw [List.getElem?_cons_succ] at h
    have ih := flatR_get r i e j h hj
    simp only [flatR, List.flatMap_cons] at ih ⊢
    rw [List.getElem?_append_right (by rw [show (ruleE x).toList.length = 4 from rfl]; omega), show (ruleE x).toList.length = 4 from rfl, show (i + 1) * 4 + j - 4 = i * 4 + j by omega]
    exact ih
theorem IsConds.heap {oa : Option Addr} {cs : List CD} {W V : World} (h : IsConds oa cs W) (hb : ∀ b off, oa = some ⟨b, off, none⟩ → b < W.heap.size → V.heap[b]? = W.heap[b]?) (hs : W.heap.size ≤ V.heap.size) : IsConds oa cs V :=
  ⟨fun h0 => by
    obtain ⟨b, off, h1, h2, h3⟩ := h.lie h0
    exact ⟨b, off, h1, Nat.lt_of_lt_of_le h2 hs, fun i c hi => (h3 i c hi).on fun j => cell_heap (hb b off h1 h2) j⟩⟩
/-- The conds of the rules lie where nothing is written any more. -/
def CondsOk (r5 : Nat) (sv : Value) (es : List RE) (X : World) : Prop := ∀ e ∈ es, RlOk e.1 ∧ IsConds e.2.1 e.1.conds X ∧ e.1.conds.length ≤ e.2.2 ∧ e.2.2 ≤ maxLen ∧ ∀ b off, e.2.1 = some ⟨b, off, none⟩ → r5 < b ∧ sv.ownBlock ≠ some b ∧ b < X.heap.size
theorem rules_owned {W : World} {base r5 : Nat} {v : Value} {es : List RE} (h : W.ownsRow base 56 4 v es.length (flatR es)) (hc : CondsOk r5 v es W) : ∃ oa cap, v = .slice oa es.length cap ∧ es.length ≤ cap ∧ cap ≤ maxLen ∧ IsRules oa (es.map (·.1)) W := by
  have h' := h
  rcases h.2 with ⟨rfl, hn⟩ | ⟨g, cap, cur, rfl, hb, hg, h1, h2, h3, h4⟩
  · exact ⟨none, 0, by rw [hn], by omega, by unfold maxLen; omega, ⟨fun h0 => by rw [List.length_map] at h0; omega⟩⟩
  · refine ⟨_, cap, rfl, h1, h2, ⟨fun h0 => ⟨g, 0, rfl, (h'.lt g rfl).2, fun i r hr => ?_⟩⟩⟩
    rw [List.getElem?_map] at hr
    cases he : es[i]? with
    | none => rw [he] at hr; cases hr
    | some e =>
      rw [he] at hr
      simp only [Option.map_some, Option.some.injEq] at hr
      subst hr
      have hcell : ∀ j u, j < 4 → (ruleE e).toList[j]? = some u → W.cell? ⟨g, 0 + i * 4 + j, none⟩ = some u := fun j u hj hu => by
        have h5 := h'.cells (g := g) rfl (i * 4 + j) u (by rw [flatR_get es i e j he hj]; exact hu)
        rwa [show (⟨g, 0, none⟩ : Addr).add (i * 4 + j) = ⟨g, 0 + i * 4 + j, none⟩ by unfold Addr.add; split <;> simp_all] at h5
      obtain ⟨q1, q2, q3, q4, _⟩ := hc e (List.mem_of_getElem? he)
      exact ⟨e.2.1, e.2.2, hcell 0 _ (by omega) rfl, hcell 1 _ (by omega) rfl, hcell 2 _ (by omega) rfl, hcell 3 _ (by omega) rfl, q2, q3, q4, q1⟩
theorem info_rule : ∃ i, Tryz.prog.info? 56 = some i ∧ i.zero = some (.agg (ruleC 0 (.slice none 0 0) ⟨0, 0⟩)) ∧ i.size = 4 ∧ i.bytes = 48 := by
  have hz : (Tryz.prog.info? 56).map (·.zero) = some (some (.agg (ruleC 0 (.slice none 0 0) ⟨0, 0⟩))) := by kernel_rfl
  have hs : (Tryz.prog.info? 56).map (·.size) = some 4 := by kernel_rfl
  have hb : (Tryz.prog.info? 56).map (·.bytes) = some 48 := by kernel_rfl
  cases hq : Tryz.prog.info? 56 with
  | none => rw [hq] at hs; simp at hs
  | some i =>
    rw [hq] at hz hs hb
    simp at hz hs hb
    exact ⟨i, rfl, hz, hs, hb⟩
theorem size_pol : (Tryz.prog.info? 26).map (·.size) = some 3 := by kernel_rfl

def polC (sv : Value) (a : ACT) : Array Value := #[sv, .int .i64 a.kind, .int .i64 a.errno]
/-- The world in the midst of read. -/
structure QX (w : World) (r1 r5 bl : Nat) (ls : List W8) (a : ACT) (sv : Value) (X : World) : Prop where
  below : Below w.heap.size w X
  res : X.heap[r1]? = some (.cells (polC (.slice none 0 0) ⟨0, 0⟩) 26 (0, 0))
  row : X.heap[r5]? = some (.cells (polC sv a) 26 (0, 0))
  lines : ∀ i x, ls[i]? = some x → X.cell? ⟨bl, i, none⟩ = some (.string (bs x))
  le : w.heap.size ≤ r1 ∧ r1 < bl ∧ bl < r5 ∧ 7 ≤ w.heap.size
  ev : EV X
theorem QX.heap {w : World} {r1 r5 bl : Nat} {ls : List W8} {a : ACT} {sv : Value} {X Y : World} (h : QX w r1 r5 bl ls a sv X) (ho : Y.os = X.os ∧ Y.tape = X.tape ∧ Y.output = X.output) (hs : X.heap.size ≤ Y.heap.size) (hb : ∀ k, k ≤ r5 → Y.heap[k]? = X.heap[k]?) : QX w r1 r5 bl ls a sv Y := by
  have hl := h.le
  exact ⟨h.below.trans ⟨ho.1, ho.2.1, ho.2.2, hs, fun k hk => hb k (by omega)⟩, (hb r1 (by omega)).trans h.res, (hb r5 (Nat.le_refl _)).trans h.row, fun i x hi => (cell_heap (hb bl (by omega)) i).trans (h.lines i x hi), h.le, h.ev.heap fun k hk => hb k (by omega)⟩
theorem QX.on {w : World} {r1 r5 bl : Nat} {ls : List W8} {a : ACT} {sv : Value} {X Y : World} (h : QX w r1 r5 bl ls a sv X) (hb : Below X.heap.size X Y) : QX w r1 r5 bl ls a sv Y :=
  h.heap ⟨hb.os, hb.tape, hb.output⟩ hb.size fun k hk => hb.block k (by have := (Array.getElem?_eq_some_iff.1 h.row).1; omega)
theorem QX.set {w : World} {r1 r5 bl : Nat} {ls : List W8} {a : ACT} {sv : Value} {X : World} (h : QX w r1 r5 bl ls a sv X) (sv' : Value) : QX w r1 r5 bl ls a sv' (X.setCell ⟨r5, 0, none⟩ sv') := by
  have hl := h.le
  rw [setCell_eq_setRow _ _ 0 _ _ _ _ h.row, show (polC sv a).setIfInBounds 0 sv' = polC sv' a from rfl]
  have hb : ∀ k, k ≠ r5 → (X.setRow r5 (polC sv' a)).heap[k]? = X.heap[k]? := fun k hk => row_heap X r5 k _ hk
  exact ⟨h.below.trans ⟨rfl, rfl, rfl, by rw [row_size]; exact Nat.le_refl _, fun k hk => hb k (by omega)⟩, (hb r1 (by omega)).trans h.res, setRow_heap _ _ _ _ _ _ h.row, fun i x hi => (cell_heap (hb bl (by omega)) i).trans (h.lines i x hi), h.le, h.ev.heap fun k hk => hb k (by omega)⟩
/-- One rule more. -/
theorem condsOk_more {r5 : Nat} {sv : Value} {es : List RE} {X0 X1 Y : World} {e : RE} {o : Obj} {gg n cap : Nat} (h : CondsOk r5 sv es X0) (hb : Below X0.heap.size X0 X1) (he : RlOk e.1 ∧ IsConds e.2.1 e.1.conds X1 ∧ e.1.conds.length ≤ e.2.2 ∧ e.2.2 ≤ maxLen ∧ ∀ b off, e.2.1 = some ⟨b, off, none⟩ → X0.heap.size ≤ b ∧ b < X1.heap.size) (h5 : r5 < X0.heap.size)
    (hown : ∀ k, sv.ownBlock = some k → k < X0.heap.size) (hgrow : (X1.alloc o).grownBy Y sv.ownBlock) (hat : sv.ownBlock = some gg ∨ gg = X1.heap.size + 1) (V : World) (hV : ∀ k, k ≠ r5 → V.heap[k]? = Y.heap[k]?) (hVs : Y.heap.size ≤ V.heap.size) :
    CondsOk r5 (.slice (some ⟨gg, 0, none⟩) n cap) (es ++ [e]) V := by
  have hs1 := hb.size
  have hsY : X1.heap.size ≤ Y.heap.size := Nat.le_trans (box_below X1 o).size hgrow.size
  have hgg : ∀ b, b < X1.heap.size → sv.ownBlock ≠ some b → (Value.slice (some ⟨gg, 0, none⟩) n cap).ownBlock ≠ some b := fun b hb1 hb2 hc => by
    simp only [Value.ownBlock, Option.some.injEq] at hc
    subst hc
    rcases hat with h | h
    · exact hb2 h
    · omega
  intro x hx
  rcases List.mem_append.1 hx with hx | hx
  · obtain ⟨q1, q2, q3, q4, q5⟩ := h x hx
    refine ⟨q1, q2.heap (fun b off e0 hlt0 => ?_) (by omega), q3, q4, fun b off e0 => ?_⟩
    · obtain ⟨p1, p2, _⟩ := q5 b off e0
      rw [hV b (by omega), hgrow.block b (by rw [World.size_alloc]; omega) (fun e1 => p2 e1.symm), (box_below X1 o).block b (by omega), hb.block b hlt0]
    · obtain ⟨p1, p2, p3⟩ := q5 b off e0
      exact ⟨p1, hgg b (by omega) p2, by omega⟩
  · rw [List.mem_singleton] at hx
    subst hx
    obtain ⟨q1, q2, q3, q4, q5⟩ := he
    refine ⟨q1, q2.heap (fun b off e0 hlt0 => ?_) (by omega), q3, q4, fun b off e0 => ?_⟩
    · have p1 := q5 b off e0
      rw [hV b (by omega), hgrow.block b (by rw [World.size_alloc]; omega) (fun e1 => by have := hown b e1.symm; omega), (box_below X1 o).block b hlt0]
    · have p1 := q5 b off e0
      exact ⟨by omega, hgg b p1.2 (fun e1 => by have := hown b e1; omega), by omega⟩
end Go.Proofs.YtbifjokfnahiaabGreatDoor

/- read: the walk. -/
namespace Go.Proofs.YtbifjokfnahiaabGreatDoor
open Go.RowKit Go.Sort

theorem CondsOk.heap {r5 : Nat} {sv : Value} {es : List RE} {X Y : World} (h : CondsOk r5 sv es X) (hb : Below X.heap.size X Y) : CondsOk r5 sv es Y := fun e he => by
  obtain ⟨q1, q2, q3, q4, q5⟩ := h e he
  refine ⟨q1, q2.on hb, q3, q4, fun b off e0 => ?_⟩
  obtain ⟨p1, p2, p3⟩ := q5 b off e0
  exact ⟨p1, p2, Nat.lt_of_lt_of_le p3 hb.size⟩
theorem own_on {W V : World} {base size n : Nat} {e : TypeId} {v : Value} {xs : List Value} (h : W.ownsRow base e size v n xs) (hb : Below W.heap.size W V) : V.ownsRow base e size v n xs :=
  h.kept (row := none) ⟨hb.os, hb.tape, hb.output, hb.size, fun k hk _ => hb.block k hk⟩ (by
    cases hv : v.ownBlock with
    | none => exact .inl rfl
    | some k => exact .inr (by simp))
theorem own_but {W V : World} {base size n r : Nat} {e : TypeId} {v : Value} {xs : List Value} (h : W.ownsRow base e size v n xs) (hb : But r W V) (hr : r < base) : V.ownsRow base e size v n xs :=
  h.kept hb.grown (by
    by_cases he : v.ownBlock = some r
    · have := (h.lt _ he).1
      omega
    · exact .inr he)
theorem trimN_len (s : W8) : (trimN s).length ≤ s.length := by
  unfold trimN Lib.trimSuffix
  split
  · simp
  · exact Nat.le_refl _

set_option maxHeartbeats 4000000 in
set_option maxRecDepth 100000 in
theorem read_any (s : W8) (hsl : s.length ≤ 9000) (w : World) (hE : EV w) : Calls Tryz.prog 16 #[.string (bs s)] w fun e w' => (∃ oa cap, e = .returned (polV (readP s) oa cap) ∧ IsPol oa cap (readP s) w') ∧ Below w.heap.size w w' := by
  have h7 := hE.lt
  obtain ⟨V0, hV0, hV0h, hV0b, hV0s⟩ : ∃ V, V = w.alloc (.cells #[.slice none 0 0, .int .i64 0, .int .i64 0] 26) ∧ V.heap[w.heap.size]? = some (.cells (polC (.slice none 0 0) ⟨0, 0⟩) 26 (0, 0)) ∧ Below w.heap.size w V ∧ V.heap.size = w.heap.size + 1 := ⟨_, rfl, heap_alloc_new _ _, box_below _ _, by rw [World.size_alloc]⟩
  have HTR := fun X => Tryz.strings_TrimSuffix (bs s) ⟨#[10]⟩ X (by rw [bs_size]; omega)
  rw [bs_data, show (⟨#[10]⟩ : ByteArray).data.toList = [10] from rfl, show (⟨(Lib.trimSuffix s [10]).toArray⟩ : ByteArray) = bs (trimN s) from rfl] at HTR
  have htl := trimN_len s
  obtain ⟨tr, htr⟩ : ∃ t, t = trimN s := ⟨_, rfl⟩
  rw [← htr] at HTR htl
  have HS := split_any1 (bs tr) 10 (by rw [bs_size]; omega) V0 (hE.on hV0b)
  rw [bs_data] at HS
  obtain ⟨ls, hls⟩ : ∃ ls, ls = splitC 10 tr := ⟨_, rfl⟩
  rw [← hls] at HS
  have hlne : ls ≠ [] := by rw [hls]; exact splitC_ne _ _
  have hll : ls.length ≤ 9001 := by rw [hls]; have := split_len (c := 10) tr; omega
  have hlsm : ∀ x ∈ ls, x.length ≤ 9000 := by rw [hls]; exact split_small (by omega)
  obtain ⟨l0, hl0⟩ : ∃ l, l = ls.headD [] := ⟨_, rfl⟩
  have hl0s : l0.length ≤ 9000 := by
    rw [hl0]
    cases ls with
    | nil => simp
    | cons x r => exact hlsm x (by simp)
  obtain ⟨V1, hV1, hV1b, hV1s, hV1c⟩ : ∃ V, V = V0.alloc (.cells (strsC ls) 9) ∧ Below V0.heap.size V0 V ∧ V.heap.size = V0.heap.size + 1 ∧ ∀ i x, ls[i]? = some x → V.cell? ⟨V0.heap.size, i, none⟩ = some (.string (bs x)) := ⟨_, rfl, box_below _ _, by rw [World.size_alloc], fun i x hi => by rw [World.cell?_alloc_new]; unfold strsC; simp [hi]⟩
  rw [← hV1] at HS
  have hV1E : EV V1 := (hE.on hV0b).on hV1b
  have HS2 := split_any1 (bs l0) 32 (by rw [bs_size]; omega) V1 hV1E
  rw [bs_data] at HS2
  obtain ⟨ws, hws⟩ : ∃ ws, ws = splitC 32 l0 := ⟨_, rfl⟩
  rw [← hws] at HS2
  have hwl : ws.length ≤ 9001 := by rw [hws]; have := split_len (c := 32) l0; omega
  have hwsm : ∀ x ∈ ws, x.length ≤ 9000 := by rw [hws]; exact split_small hl0s
  have c00 := hV1c 0 l0 (by
    rw [hl0]
    cases ls with
    | nil => exact absurd rfl hlne
    | cons x r => rfl)
  obtain ⟨V, hV, hVw, hVb⟩ : ∃ V, V = (V1.alloc (.cells (strsC ws) 9)).alloc (.cells #[.slice (some ⟨V1.heap.size, 0, none⟩) ws.length ws.length] 80) ∧ IsWords V (V1.heap.size + 1) (V1.heap.size + 2) ws ∧ Below V1.heap.size V1 V := ⟨_, rfl, words_new V1 ws hwsm hwl, below_next (box_below _ _) (box_below _ _)⟩
  obtain ⟨g, hg⟩ : ∃ g, g = V1.heap.size + 1 := ⟨_, rfl⟩
  rw [← hg, show V1.heap.size + 2 = g + 1 by omega] at hVw
  obtain ⟨t1, ht1⟩ : ∃ t, t = ws.tail := ⟨_, rfl⟩
  obtain ⟨x0, hx0⟩ : ∃ x, x = ws.headD [] := ⟨_, rfl⟩
  have HN := nextX ht1 hx0 g (g + 1) V hVw
  obtain ⟨a, ha⟩ : ∃ a, a = (readAct t1).1 := ⟨_, rfl⟩
  have HAR := fun X h1 h2 => readAct_any t1 g (g + 1) (by omega) X h1 h2
  rw [← ha] at HAR
  have HRP := hide (show readP s = ⟨ls.tail.map readRule, a⟩ by unfold readP; rw [← htr, ← hls, ← hl0, ← hws, ← ht1, ← ha])
  have HNW := hide (show V0.heap.size = w.heap.size + 1 ∧ V1.heap.size = w.heap.size + 2 ∧ g = w.heap.size + 3 by omega)
  have HLN := hide hls
  have HLL := hide hll
  have HLS := hide hlsm
  have hVE := hV1E.on hVb
  obtain ⟨n0, hn0⟩ : ∃ n, n = ws.length := ⟨_, rfl⟩
  rw [← hn0] at HS2 hV
  obtain ⟨nl, hnl⟩ : ∃ n, n = ls.length := ⟨_, rfl⟩
  have hnl1 : 1 ≤ nl := by rw [hnl]; exact List.length_pos_iff.2 hlne
  rw [← hnl] at HS
  have HNL := hide hnl
  obtain ⟨q, hq⟩ : ∃ q, q = bs s := ⟨_, rfl⟩
  rw [← hq] at HTR ⊢
  obtain ⟨q1, hq1⟩ : ∃ q, q = bs tr := ⟨_, rfl⟩
  rw [← hq1] at HTR HS
  obtain ⟨q2, hq2⟩ : ∃ q, q = bs l0 := ⟨_, rfl⟩
  rw [← hq2] at HS2 c00
  rw [hV0s] at hV1s hV1c HS c00
  rw [hV1s] at HS2 hV
  have HV1C := hide hV1c
  clear hV1c
  clear hq hq1 hq2 hnl hn0 hls hll hlsm ha ht1 hx0 hws hl0 htr hwl hwsm hl0s hlne htl hsl hE hg
  go_enter Tryz.func16, Tryz.ntmps16
  go_wp2_with fail
  rw [show w.alloc (Obj.cells #[.slice none 0 0, .int .i64 0, .int .i64 0] 26) = V0 from hV0.symm]
  refine (HTR _).mono ?_
  rintro e W1 ⟨rfl, hW1⟩
  rw [hW1]
  clear hV0 HTR hW1
  go_wp2_with fail
  refine HS.mono ?_
  rintro e W1 ⟨rfl, hW1⟩
  rw [hW1]
  clear HS hV1 hW1
  go_wp2_with fail
  refine HS2.mono ?_
  rintro e W2 ⟨rfl, rfl⟩
  clear HS2
  go_wp2_with fail
  rw [show (V1.alloc (.cells (strsC ws) 9)).alloc (.cells #[.slice (some ⟨w.heap.size + 1 + 1, 0, none⟩) n0 n0] 80) = V from hV.symm, show w.heap.size + 1 + 1 + 1 = g by have := HNW.out; omega]
  refine HN.mono ?_
  rintro e X ⟨rfl, hX, hXb⟩
  clear hV HN
  go_wp2_with fail
  refine (HAR _ hX (hVE.but (by have := HNW.out; omega) hXb)).mono ?_
  rintro e Y ⟨rfl, hY, hYb⟩
  obtain ⟨ak, ae⟩ := a
  unfold actV
  simp only
  clear HAR
  have HQ := hide (show QX w w.heap.size Y.heap.size (w.heap.size + 1) ls ⟨ak, ae⟩ (.slice none 0 0) (Y.alloc (.cells #[.slice none 0 0, .int .i64 ak, .int .i64 ae] 26)) by
    have hb2 := hXb.trans hYb
    have hn := HNW.out
    have hs2 := hb2.size
    have hs3 := hVb.size
    have hbV : Below V0.heap.size V0 V := below_next hV1b hVb
    refine ⟨(hb2.below (below_next hV0b hbV) (by omega) (by omega)).alloc (by omega) _, ?_, heap_alloc_new _ _, fun i x hi => ?_, ⟨Nat.le_refl _, by omega, by omega, h7⟩, ((hVE.but (by omega) hb2)).on (box_below _ _)⟩
    · rw [(box_below Y _).block w.heap.size (by omega), hb2.block w.heap.size (by omega) (by omega), hbV.block w.heap.size (by omega)]
      exact hV0h
    · refine keep_cell (box_below _ _) (hb2.cell (by omega) (keep_cell hVb (HV1C.out i x hi))))
  obtain ⟨k, rfl⟩ : ∃ k, nl = k + 1 := ⟨nl - 1, by omega⟩
  clear hX hXb hY hYb hVE hVw hVb hV1E hV1b hV1s hV0h hV0b hV0s HNW hnl1 c00
  have hk9 : k ≤ 9000 := by have h1 := HNL.out; have h2 := HLL.out; omega
  go_wp2
  obtain ⟨r5, hr5⟩ : ∃ r, r = Y.heap.size := ⟨_, rfl⟩
  rw [← hr5] at HQ ⊢
  clear hr5
  go_loopw [20] (fun I w' => ∃ (i : Nat) (es : List RE) (sv : Value), i ≤ k ∧ I = .int .i64 i ∧ Hid (QX w w.heap.size r5 (w.heap.size + 1) ls ⟨ak, ae⟩ sv w') ∧ Hid (w'.ownsRow (r5 + 1) 56 4 sv es.length (flatR es)) ∧ Hid (CondsOk r5 sv es w') ∧ Hid (es.map (·.1) = (ls.tail.take i).map readRule) ∧ Hid (es.length = i)) (fun I _ => k - (intOf I).toNat)
  case atStart => exact ⟨0, [], .slice none 0 0, by omega, rfl, HQ, hide (World.ownsRow_nil _ _ _ _), hide (fun e he => by cases he), hide (by simp), hide rfl⟩
  case round =>
    obtain ⟨i, es, sv, hi, rfl, HC, HO, HK, HI, HEL⟩ := hrel
    clear HQ
    by_cases hlt : i < k
    · have hit : i + 1 < ls.length := by have := HNL.out; omega
      obtain ⟨x, hx⟩ : ∃ x, ls[i + 1]? = some x := ⟨_, List.getElem?_eq_getElem hit⟩
      have hxs := HLS.out x (List.mem_of_getElem? hx)
      have cx := HC.out.lines (i + 1) x hx
      have HRR := fun X hX => readRule_any x hxs X hX
      have hok := readRule_ok x
      have htk : (ls.tail.take (i + 1)).map readRule = (ls.tail.take i).map readRule ++ [readRule x] := by
        rw [List.take_add_one, show ls.tail[i]? = some x by rw [List.getElem?_tail]; exact hx, List.map_append]
        rfl
      obtain ⟨rr, hrr⟩ : ∃ r, r = readRule x := ⟨_, rfl⟩
      rw [← hrr] at HRR hok htk
      have HTK := hide htk
      have HROK := hide hok
      obtain ⟨q3, hq3⟩ : ∃ q, q = bs x := ⟨_, rfl⟩
      rw [← hq3] at HRR cx
      clear hq3 hrr hxs hx hit htk hok
      replace HC := hide (HC.out.on (Below.refl _ wr).drew)
      replace HO : Hid (wr.drew.ownsRow (r5 + 1) 56 4 sv es.length (flatR es)) := HO
      replace HK := hide (HK.out.heap (Below.refl _ wr).drew)
      have cS : wr.drew.cell? ⟨r5, 0, none⟩ = some sv := cell_of_row _ _ 0 _ _ _ HC.out.row
      obtain ⟨nr, cs, ⟨rk, re⟩⟩ := rr
      unfold ruleV at HRR
      simp only at HRR
      obtain ⟨inf, hi0, hz0, hz1, hz2⟩ := info_rule
      have hel : es.length ≤ 9000 := by have := HEL.out; omega
      have i1 : (0 : Int) ≤ (i : Int) + 1 := by omega
      have i2 : (i : Int) + 1 < (k : Int) + 1 := by omega
      have hw1 : IntKind.i64.wrap ((i : Int) + 1) = (i : Int) + 1 := by rw [IntKind.wrap_i64]; omega
      go_wp2_with fail
      go_region_law
        (first
          | (go_simp; go_at_call 28; refine (HRR _ HC.out.ev).mono ?_; rintro e w1 ⟨⟨oc, cc, rfl, hcl, hcm, hIC, hbs⟩, hb1⟩; have HD := hide (HC.out.on hb1); have cD : w1.cell? ⟨r5, 0, none⟩ = some sv := cell_of_row _ _ 0 _ _ _ HD.out.row; have cx2 := keep_cell hb1 cx; have l5 : r5 < w1.heap.size := block_lt_of_cell cD; have HOD := hide (own_on HO.out hb1); have HNEW := hide (And.intro hb1 (And.intro hcl (And.intro hcm (And.intro hIC hbs)))); clear hb1 hcl hcm hIC hbs)
          | (refine step_append_lies _ (by rfl) _ _ _ (by rfl) (r5 + 1) 56 inf _ 4 48 Tryz.underlying22 hi0 hz0 hz1 hz2 rfl (by omega) sv es.length (flatR es) (by rfl) (HOD.out.alloc _)
                ⟨w1.heap.size, 0, none⟩ 1 1 [.int .i64 nr, .slice oc cs.length cc, .int .i64 rk, .int .i64 re] (by rfl) (by rfl) (World.news_of_block (cs := #[.int .i64 nr, .slice oc cs.length cc, .int .i64 rk, .int .i64 re]) (t := 56) (fr := (0, 0)) (heap_alloc_new w1 _)) (by simp [Value.oneCell'])
                (by omega) (by simp only [maxLen]; omega) (by omega) (by rw [World.size_alloc]; omega) (w1.heap.size + 1) (by simp) ?_; intro gg cap1 w2 hown1 hgrow hat hltt; have HG := hide (And.intro hown1 (And.intro hgrow (And.intro hat hltt))); have HW := hide (HD.out.heap (Y := w2) ⟨hgrow.os, hgrow.tape, hgrow.output⟩ (Nat.le_trans (box_below w1 _).size hgrow.size) (fun k hk => (hgrow.block k (by rw [World.size_alloc]; omega) (fun e1 => by have := (HOD.out.lt k e1.symm).1; omega)).trans ((box_below w1 _).block k (by omega)))); have cE : w2.cell? ⟨r5, 0, none⟩ = some sv := cell_of_row _ _ 0 _ _ _ HW.out.row; have fE : w2.frozen? ⟨r5, 0, none⟩ = false := frozen_of_row _ _ 0 _ _ HW.out.row; clear hown1 hgrow hat hltt))
      all_goals
        have HS2 := hide (HW.out.set (.slice (some ⟨gg, 0, none⟩) (es.length + 1) cap1))
        have HO2 := hide (own_but (r := r5) (V := w2.setCell ⟨r5, 0, none⟩ (.slice (some ⟨gg, 0, none⟩) (es.length + 1) cap1)) HG.out.1 (But.set r5 0 w2 _) (by omega))
        have HK2 := hide (condsOk_more (e := (⟨nr, cs, ⟨rk, re⟩⟩, oc, cc)) (gg := gg) (n := es.length + 1) (cap := cap1) HK.out HNEW.out.1 ⟨HROK.out, HNEW.out.2.2.2.1, HNEW.out.2.1, HNEW.out.2.2.1, HNEW.out.2.2.2.2⟩ (block_lt_of_cell cS) (fun k hk => (HO.out.lt k hk).2) HG.out.2.1 HG.out.2.2.1 (w2.setCell ⟨r5, 0, none⟩ (.slice (some ⟨gg, 0, none⟩) (es.length + 1) cap1)) (fun k hk => Below.heap_setCell _ _ _ _ hk) (But.set r5 0 w2 _).size)
        have HI2 := hide (show (es ++ [((⟨nr, cs, ⟨rk, re⟩⟩ : RL), oc, cc)]).map (·.1) = (ls.tail.take (i + 1)).map readRule by rw [HTK.out, List.map_append, HI.out]; rfl)
        have HEL2 := hide (show (es ++ [((⟨nr, cs, ⟨rk, re⟩⟩ : RL), oc, cc)]).length = i + 1 by rw [List.length_append, List.length_singleton, HEL.out])
        replace HO2 : Hid ((w2.setCell ⟨r5, 0, none⟩ (.slice (some ⟨gg, 0, none⟩) (es.length + 1) cap1)).ownsRow (r5 + 1) 56 4 (.slice (some ⟨gg, 0, none⟩) (es.length + 1) cap1) (es ++ [((⟨nr, cs, ⟨rk, re⟩⟩ : RL), oc, cc)]).length (flatR (es ++ [((⟨nr, cs, ⟨rk, re⟩⟩ : RL), oc, cc)]))) := hide (by rw [List.length_append, List.length_singleton, flatR_snoc]; exact HO2.out)
        clear cD cE fE cx2 l5 HG HW HD HOD HNEW cS cx
        go_wp2
        go_round
        case rel => exact ⟨i + 1, _, _, by omega, by go_num, HS2, HO2, HK2, HI2, HEL2⟩
        case measure => simp [intOf]; omega
    · obtain rfl : i = k := by omega
      have HEQ := hide (show es.map (·.1) = ls.tail.map readRule by rw [HI.out, List.take_of_length_le (by have := HNL.out; rw [List.length_tail]; omega)])
      have c0 : wr.cell? ⟨r5, 0, none⟩ = some sv := cell_of_row _ _ 0 _ _ _ HC.out.row
      have c1 : wr.cell? ⟨r5, 1, none⟩ = some (.int .i64 ak) := cell_of_row _ _ 1 _ _ _ HC.out.row
      have c2 : wr.cell? ⟨r5, 2, none⟩ = some (.int .i64 ae) := cell_of_row _ _ 2 _ _ _ HC.out.row
      obtain ⟨oc, cc, hsv, hcl, hcm, _⟩ := rules_owned HO.out HK.out
      subst hsv
      have hres := HC.out.res
      obtain ⟨rc, hrc⟩ : ∃ rc : Array Value, rc = polC (.slice oc es.length cc) ⟨ak, ae⟩ := ⟨_, rfl⟩
      have h1c : rc.all (·.oneCell') = true := by rw [hrc]; simp [polC, Value.oneCell']
      go_wp2_with (refine wpList_store_row rfl 26 _ _ rfl w.heap.size rc rfl (by rw [hrc]; rfl) 26 _ hres (by rw [hrc]; exact size_pol) (by rw [hrc]; rfl) h1c ?_)
      have hl := HC.out.le
      have hb1 : ∀ k, k ≠ w.heap.size → (wr.setRow w.heap.size rc).heap[k]? = wr.heap[k]? := fun k hk => row_heap wr _ k _ hk
      have hBt : But w.heap.size wr (wr.setRow w.heap.size rc) := ⟨rfl, rfl, rfl, by rw [row_size]; exact Nat.le_refl _, fun k _ hn => hb1 k hn⟩
      refine bodyPost_ret (v := .agg rc) (results_cell_row rfl _ _ w.heap.size 26 rc (0, 0) _ rfl (setRow_heap _ _ _ _ _ _ hres) Tryz.underlying26 rfl (by rw [hrc]; exact size_pol)) rfl ⟨?_, hBt.below HC.out.below (Nat.le_refl _) HC.out.below.size⟩
      have hO2 := HO.out.kept hBt.grown (by
        by_cases he : (Value.slice oc es.length cc).ownBlock = some w.heap.size
        · have := (HO.out.lt _ he).1
          omega
        · exact .inr he)
      have hK2 : CondsOk r5 (.slice oc es.length cc) es (wr.setRow w.heap.size rc) := fun e he => by
        obtain ⟨q1, q2, q3, q4, q5⟩ := HK.out e he
        refine ⟨q1, q2.heap (fun b off e0 _ => hb1 b (by have := q5 b off e0; omega)) (by rw [row_size]; exact Nat.le_refl _), q3, q4, fun b off e0 => ?_⟩
        rw [row_size]
        exact q5 b off e0
      obtain ⟨oc', cc', hsv', _, _, hIR⟩ := rules_owned hO2 hK2
      simp only [Value.slice.injEq] at hsv'
      obtain ⟨rfl, _, rfl⟩ := hsv'
      have hok := readP_ok s
      rw [HRP.out] at hok ⊢
      rw [HEQ.out] at hIR
      have hle : (ls.tail.map readRule).length = es.length := by rw [← HEQ.out, List.length_map]
      exact ⟨oc, cc, by rw [hrc]; unfold polV; simp only; rw [hle]; rfl, ⟨hIR, by simp only; rw [hle]; exact hcl, hcm, hok⟩⟩
end Go.Proofs.YtbifjokfnahiaabGreatDoor

/- policy.Parse. -/
namespace Go.Proofs.YtbifjokfnahiaabGreatDoor
open Go.RowKit Go.Sort

def zeroPol : POL := ⟨[], ⟨0, 0⟩⟩
/-- What Parse gives: a policy, and the error's number. -/
def parseP (s : W8) : POL × Nat := if 8000 < s.length then (zeroPol, 2) else match docP s with
  | some p => (p, 0)
  | none => (zeroPol, 4)
theorem zeroPol_is (W : World) : IsPol none 0 zeroPol W := ⟨IsRules.nil _ _, Nat.le_refl _, by unfold maxLen; omega, ⟨fun r hr => (by cases hr), ⟨i64_nat (k := 0) (by omega), i64_nat (k := 0) (by omega)⟩⟩⟩
theorem results_pol {fn : Func} {p u : Tmp} (h : fn.results = #[.cell p 26, .tmp u]) (tmps : Array Value) (w : World) (g : Nat) (cs : Array Value) (v : Value) (hs : cs.size = 3)
    (hp : tmps.getD p undef = .pointer (some ⟨g, 0, none⟩)) (hv : tmps.getD u undef = v) (hg : w.heap[g]? = some (.cells cs 26 (0, 0))) :
    (results fn tmps).run Tryz.prog w = .ok (.tuple #[.agg cs, v]) w := by
  rw [results_cell_tmp h, hp, hv]
  have hl := run_loadVar_row (P := Tryz.prog) w g 26 26 cs (0, 0) _ hg Tryz.underlying26 rfl (by rw [hs]; exact size_pol)
  simp [asAddr, hl]
/-- What lies in the row of a result that is still nought. -/
theorem nought_row {Z : World} {r j : Nat} {v : Value} (h : Z.heap[r]? = some (.cells #[.slice none 0 0, .int .i64 0, .int .i64 0] 26 (0, 0))) (hc : Z.cell? ⟨r, j, none⟩ = some v) : (j = 0 ∧ v = .slice none 0 0) ∨ v = .int .i64 0 := by
  rw [cell_of_row _ _ j _ _ _ h] at hc
  match j, hc with
  | 0, hc => left; simp at hc; exact ⟨rfl, hc.symm⟩
  | 1, hc => right; simp at hc; exact hc.symm
  | 2, hc => right; simp at hc; exact hc.symm
  | j + 3, hc => simp at hc
theorem IsConds.apart {oa : Option Addr} {cs : List CD} {Z : World} {r : Nat} (h : IsConds oa cs Z) (hr : Z.heap[r]? = some (.cells #[.slice none 0 0, .int .i64 0, .int .i64 0] 26 (0, 0))) (c : Array Value) : IsConds oa cs (Z.setRow r c) :=
  ⟨fun h0 => by
    obtain ⟨b, off, h1, h2, h3⟩ := h.lie h0
    have hne : b ≠ r := fun e => by
      subst e
      obtain ⟨y, hy⟩ : ∃ y, cs[0]? = some y := ⟨_, List.getElem?_eq_getElem h0⟩
      rcases nought_row hr (h3 0 y hy).k2 with ⟨_, h5⟩ | h5
      · cases h5
      · cases h5
    exact ⟨b, off, h1, by rw [row_size]; exact h2, fun i x hi => (h3 i x hi).on fun j => cell_heap (row_heap Z r b c hne) j⟩⟩
theorem IsPol.apart {oa : Option Addr} {cap : Nat} {p : POL} {Z : World} {r : Nat} (h : IsPol oa cap p Z) (hr : Z.heap[r]? = some (.cells #[.slice none 0 0, .int .i64 0, .int .i64 0] 26 (0, 0))) (c : Array Value) : IsPol oa cap p (Z.setRow r c) :=
  ⟨⟨fun h0 => by
    obtain ⟨b, off, h1, h2, h3⟩ := h.rules.lie h0
    have hne : b ≠ r := fun e => by
      subst e
      obtain ⟨y, hy⟩ : ∃ y, p.rules[0]? = some y := ⟨_, List.getElem?_eq_getElem h0⟩
      obtain ⟨ca, cc, h4⟩ := h3 0 y hy
      rcases nought_row hr h4.k1 with ⟨h5, _⟩ | h5
      · omega
      · cases h5
    refine ⟨b, off, h1, by rw [row_size]; exact h2, fun i x hi => ?_⟩
    obtain ⟨ca, cc, h4⟩ := h3 i x hi
    have hc := fun j => cell_heap (row_heap Z r b c hne) j
    exact ⟨ca, cc, (hc _).trans h4.k0, (hc _).trans h4.k1, (hc _).trans h4.k2, (hc _).trans h4.k3, h4.conds.apart hr c, h4.le, h4.cap, h4.ok⟩⟩, h.le, h.cap, h.ok⟩
theorem polC_one (oa : Option Addr) (n cap : Nat) (k e : Int) : (#[.slice oa n cap, .int .i64 k, .int .i64 e] : Array Value).all (·.oneCell') = true := by simp [Value.oneCell']

set_option maxHeartbeats 2000000 in
theorem pparse_any (s : W8) (hs : s.length ≤ 9000) (w : World) (hE : EV w) : Calls Tryz.prog 8 #[.string (bs s)] w fun e w' => (∃ oa cap, e = .returned (.tuple #[polV (parseP s).1 oa cap, errV (parseP s).2]) ∧ IsPol oa cap (parseP s).1 w') ∧ Below w.heap.size w w' := by
  have hsz := bs_size s
  have hbl := bs_toList s
  have HRD := fun X hX => read_any s hs X hX
  have hps := parse_same s (readP_ok s)
  obtain ⟨q, hq⟩ : ∃ q, q = bs s := ⟨_, rfl⟩
  rw [← hq] at hsz hbl HRD ⊢
  clear hq
  obtain ⟨V0, hV0, hV0h, hV0b, hV0s⟩ : ∃ V, V = w.alloc (.cells #[.slice none 0 0, .int .i64 0, .int .i64 0] 26) ∧ V.heap[w.heap.size]? = some (.cells #[.slice none 0 0, .int .i64 0, .int .i64 0] 26 (0, 0)) ∧ Below w.heap.size w V ∧ V.heap.size = w.heap.size + 1 := ⟨_, rfl, heap_alloc_new _ _, box_below _ _, by rw [World.size_alloc]⟩
  by_cases h8 : 8000 < s.length
  · have HV := hide (show parseP s = (zeroPol, 2) from if_pos h8)
    have h8' : (8000 : Int) < q.size := by omega
    clear HRD hps hbl hs
    go_enter Tryz.func8, Tryz.ntmps8
    go_wp2_with (refine wpList_store_row rfl 26 _ _ rfl w.heap.size #[.slice none 0 0, .int .i64 0, .int .i64 0] rfl rfl 26 _ (heap_alloc_new _ _) size_pol rfl (polC_one _ _ _ _ _) ?_)
    refine bodyPost_ret (v := .tuple #[.agg #[.slice none 0 0, .int .i64 0, .int .i64 0], .iface 61 (.int .i64 2)]) (results_pol rfl _ _ w.heap.size #[.slice none 0 0, .int .i64 0, .int .i64 0] _ rfl rfl rfl (setRow_heap _ _ _ _ _ _ (heap_alloc_new _ _))) rfl ⟨⟨none, 0, ?_, ?_⟩, below_setRow (box_below _ _) (Nat.le_refl _) _⟩
    · rw [HV.out]; rfl
    · rw [HV.out]; exact zeroPol_is _
  have h8' : ¬ (8000 : Int) < q.size := by omega
  have hpp : parseP s = match docP s with
    | some p => (p, 0)
    | none => (zeroPol, 4) := if_neg h8
  obtain ⟨p, hp⟩ : ∃ p, p = readP s := ⟨_, rfl⟩
  rw [← hp] at HRD hps
  have HE := hide (hE.on hV0b)
  have HPS := hide hps
  have HPP := hide hpp
  have HBL := hide hbl
  clear hps hpp hp hbl hE h8 hs hsz
  go_enter Tryz.func8, Tryz.ntmps8
  go_wp2_with fail
  rw [show w.alloc (Obj.cells #[.slice none 0 0, .int .i64 0, .int .i64 0] 26) = V0 from hV0.symm]
  refine (HRD _ HE.out).mono ?_
  rintro e X ⟨⟨oa, cap, rfl, hIP⟩, hX⟩
  clear hV0 HRD
  obtain ⟨Y, hY, hYb, _, hYc⟩ := one_box X #[.slice oa p.rules.length cap, .int .i64 p.els.kind, .int .i64 p.els.errno] 26
  have HT := ptext_any p oa cap Y (hIP.on hYb) ((HE.out.on hX).on hYb)
  have HIP := hide (hIP.on hYb)
  have HB := hide (below_next hX hYb)
  clear hIP hX hYb
  have y0 := hYc 0
  have y1 := hYc 1
  have y2 := hYc 2
  simp only [List.getElem?_toArray, List.getElem?_cons_zero, List.getElem?_cons_succ] at y0 y1 y2
  clear hYc
  unfold polV at HT ⊢
  obtain ⟨rn, hrn⟩ : ∃ n, n = p.rules.length := ⟨_, rfl⟩
  obtain ⟨pk, hpk⟩ : ∃ n, n = p.els.kind := ⟨_, rfl⟩
  obtain ⟨pe, hpe⟩ : ∃ n, n = p.els.errno := ⟨_, rfl⟩
  rw [← hrn, ← hpk, ← hpe] at HT hY
  rw [← hrn] at y0
  rw [← hpk] at y1
  rw [← hpe] at y2
  rw [← hrn, ← hpk, ← hpe]
  have HPV := hide (show (#[.slice oa rn cap, .int .i64 pk, .int .i64 pe] : Array Value) = #[.slice oa p.rules.length cap, .int .i64 p.els.kind, .int .i64 p.els.errno] by rw [hrn, hpk, hpe])
  clear hrn hpk hpe
  go_wp2_with fail
  rw [show X.alloc (.cells #[.slice oa rn cap, .int .i64 pk, .int .i64 pe] 26) = Y from hY.symm]
  refine HT.mono ?_
  rintro e Z ⟨rfl, hZ⟩
  have HZ := hide hZ
  have z0 := keep_cell hZ y0
  have z1 := keep_cell hZ y1
  have z2 := keep_cell hZ y2
  have hr1 : Z.heap[w.heap.size]? = some (.cells #[.slice none 0 0, .int .i64 0, .int .i64 0] 26 (0, 0)) := by
    have := below_next HB.out hZ
    rw [this.block w.heap.size (by omega)]
    exact hV0h
  have HBW := hide (below_next hV0b (below_next HB.out hZ))
  clear hZ hY HT y0 y1 y2 hV0h hV0b hV0s HE
  unfold ptextV
  by_cases hf : polF p = 0
  · rw [if_pos hf, hf, errV_zero]
    obtain ⟨T, hT⟩ : ∃ t, t = bs (textP p) := ⟨_, rfl⟩
    rw [← hT]
    have HTL := hide (show T.toList = textP p by rw [hT, bs_toList])
    clear hT
    by_cases ht : textP p = s
    · have HV := hide (show parseP s = (p, 0) by
        rw [HPP.out, ← HPS.out, if_pos ⟨hf, ht⟩])
      have hb : (T.toList == q.toList) = true := by rw [HTL.out, HBL.out, ht]; simp
      clear ht hf
      go_wp2_with (refine wpList_store_row rfl 26 _ _ rfl w.heap.size #[.slice oa rn cap, .int .i64 pk, .int .i64 pe] rfl rfl 26 _ hr1 size_pol rfl (polC_one _ _ _ _ _) ?_)
      refine bodyPost_ret (v := .tuple #[.agg #[.slice oa rn cap, .int .i64 pk, .int .i64 pe], .nilIface]) (results_pol rfl _ _ w.heap.size #[.slice oa rn cap, .int .i64 pk, .int .i64 pe] _ rfl rfl rfl (setRow_heap _ _ _ _ _ _ hr1)) rfl ⟨⟨oa, cap, ?_, ?_⟩, below_setRow HBW.out (Nat.le_refl _) _⟩
      · rw [HV.out, HPV.out]; rfl
      · rw [HV.out]; exact (HIP.out.on HZ.out).apart hr1 _
    · have HV := hide (show parseP s = (zeroPol, 4) by
        rw [HPP.out, ← HPS.out, if_neg (fun h => ht h.2)])
      have hb : (T.toList == q.toList) = false := by rw [HTL.out, HBL.out]; simpa using ht
      clear ht hf
      go_wp2_with (refine wpList_store_row rfl 26 _ _ rfl w.heap.size #[.slice none 0 0, .int .i64 0, .int .i64 0] rfl rfl 26 _ hr1 size_pol rfl (polC_one _ _ _ _ _) ?_)
      refine bodyPost_ret (v := .tuple #[.agg #[.slice none 0 0, .int .i64 0, .int .i64 0], .iface 61 (.int .i64 4)]) (results_pol rfl _ _ w.heap.size #[.slice none 0 0, .int .i64 0, .int .i64 0] _ rfl rfl rfl (setRow_heap _ _ _ _ _ _ hr1)) rfl ⟨⟨none, 0, ?_, ?_⟩, below_setRow HBW.out (Nat.le_refl _) _⟩
      · rw [HV.out]; rfl
      · rw [HV.out]; exact zeroPol_is _
  · rw [if_neg hf, errV_pos hf]
    have HV := hide (show parseP s = (zeroPol, 4) by
      rw [HPP.out, ← HPS.out, if_neg (fun h => hf h.1)])
    clear hf
    go_wp2_with (refine wpList_store_row rfl 26 _ _ rfl w.heap.size #[.slice none 0 0, .int .i64 0, .int .i64 0] rfl rfl 26 _ hr1 size_pol rfl (polC_one _ _ _ _ _) ?_)
    refine bodyPost_ret (v := .tuple #[.agg #[.slice none 0 0, .int .i64 0, .int .i64 0], .iface 61 (.int .i64 4)]) (results_pol rfl _ _ w.heap.size #[.slice none 0 0, .int .i64 0, .int .i64 0] _ rfl rfl rfl (setRow_heap _ _ _ _ _ _ hr1)) rfl ⟨⟨none, 0, ?_, ?_⟩, below_setRow HBW.out (Nat.le_refl _) _⟩
    · rw [HV.out]; rfl
    · rw [HV.out]; exact zeroPol_is _
end Go.Proofs.YtbifjokfnahiaabGreatDoor
