/- The caller writes into its own policy: nothing else turns. -/
import Derived.Test.YtklibmijiecbfaaGreatK39
import Derived.Test.YtklibmijiecbfaaGreatK38
import Derived.Test.YtklibmijiecbfaaGreatK37
namespace Go.Proofs.YtklibmijiecbfaaGreat
open Go.RowKit Mm

structure WrX (B T : Nat) (ob : Option Addr) (es : List RE) (X0 X : World) : Prop where
 fr : X.os = X0.os ∧ X.tape = X0.tape ∧ X.output = X0.output ∧ X.heap.size = X0.heap.size
 out : ∀ k, k < B ∨ T ≤ k → X.heap[k]? = X0.heap[k]?
 rul : 0 < es.length → ∃ b cur, ob = some ⟨b, 0, none⟩ ∧ B ≤ b ∧ b < T ∧ X.heap[b]? = some (.cells cur 41 (0, 0)) ∧ es.length * 4 ≤ cur.size ∧ ∀ i e, es[i]? = some e → cur[i * 4 + 1]? = some (.slice e.2.1 e.1.conds.length e.2.2)
 cds : ∀ e ∈ es, ∃ b cur, e.2.1 = some ⟨b, 0, none⟩ ∧ B ≤ b ∧ b < T ∧ ob ≠ some ⟨b, 0, none⟩ ∧ X.heap[b]? = some (.cells cur 47 (0, 0)) ∧ e.1.conds.length * 9 ≤ cur.size
theorem conds_size {W : World} {b : Nat} {cs : List CD} {cur : Array Value} (h : IsConds (some ⟨b, 0, none⟩) cs W) (hr : W.heap[b]? = some (.cells cur 47 (0, 0))) : cs.length * 9 ≤ cur.size := by
 by_cases h0 : cs.length = 0
 ·
  omega
 ·
  obtain ⟨b', off, he, _, hx⟩ := h.lie (by omega)
  simp only [Option.some.injEq, Addr.mk.injEq] at he
  obtain ⟨rfl, rfl, _⟩ := he
  obtain ⟨c, hc⟩ : ∃ c, cs[cs.length - 1]? = some c := ⟨_, List.getElem?_eq_getElem (by omega)⟩
  have := (hx _ c hc).k8
  rw [cell_of_row _ _ _ _ _ _ hr] at this
  have := (Array.getElem?_eq_some_iff.1 this).1
  omega
theorem WrX.start {B T : Nat} {ob : Option Addr} {cb : Nat} {p : POL} {W X : World} (h : OwnsPol B ob cb p W) (hT : T = W.heap.size) (hb : Below W.heap.size W X) : ∃ es : List RE, es.map (·.1) = p.rules ∧ WrX B T ob es X X := by
 obtain ⟨es, hm, ho, hc, hr⟩ := h
 refine ⟨es, hm, ⟨rfl, rfl, rfl, rfl⟩, fun _ _ => rfl, fun h0 => ?_, fun e he => ?_⟩
 ·
  rcases ho.2 with ⟨_, h1⟩ | ⟨b, cap, cur, h1, h2, h3, h4, h5, h6, h7⟩
  ·
   omega
  ·
   simp only [Value.slice.injEq] at h1
   have hlt : b < W.heap.size := (Array.getElem?_eq_some_iff.1 h3).1
   refine ⟨b, cur, h1.1, by omega, by omega, (hb.block b hlt).trans h3, by rw [h6]; omega, fun i e he => ?_⟩
   have hi : i < es.length := (List.getElem?_eq_some_iff.1 he).1
   have h8 := flatR_get es i e 1 he (by omega)
   rw [← h7, List.getElem?_take, if_pos (by omega)] at h8
   rw [show (ruleE e).toList[1]? = some (.slice e.2.1 e.1.conds.length e.2.2) from rfl] at h8
   simpa using h8
 ·
  obtain ⟨_, q2, _, _, q5⟩ := hc e he
  obtain ⟨b, cur, h1, h2⟩ := hr e he
  have h3 := q5 b 0 h1
  refine ⟨b, cur, h1, by omega, by omega, fun e1 => ?_, (hb.block b h3.2.2).trans h2, ?_⟩
  ·
   rw [e1] at h3
   exact h3.2.1 rfl
  ·
   rw [h1] at q2
   exact conds_size q2 h2
theorem WrX.nr {B T : Nat} {ob : Option Addr} {es : List RE} {X0 X : World} (h : WrX B T ob es X0 X) (i b : Nat) (hi : i < es.length) (hob : ob = some ⟨b, 0, none⟩) (v : Value) : WrX B T ob es X0 (X.setCell ⟨b, i * 4, none⟩ v) := by
 obtain ⟨b', cur, h1, h2, h3, h4, h5, h6⟩ := h.rul (by omega)
 rw [hob] at h1
 simp only [Option.some.injEq, Addr.mk.injEq] at h1
 obtain ⟨rfl, _⟩ := h1
 rw [setCell_eq_setRow _ _ _ _ _ _ _ h4]
 have hoth : ∀ k, k ≠ b → (X.setRow b (cur.setIfInBounds (i * 4) v)).heap[k]? = X.heap[k]? := fun k hk => row_heap X b k _ hk
 refine ⟨⟨h.fr.1, h.fr.2.1, h.fr.2.2.1, by rw [row_size]; exact h.fr.2.2.2⟩, fun k hk => (hoth k (by omega)).trans (h.out k hk), fun _ => ⟨b, _, hob, h2, h3, setRow_heap _ _ _ _ _ _ h4, by simpa using h5, fun j e he => ?_⟩, fun e he => ?_⟩
 ·
  rw [Array.getElem?_setIfInBounds, if_neg (by omega)]
  exact h6 j e he
 ·
  obtain ⟨bc, cc, q1, q2, q3, q4, q5, q6⟩ := h.cds e he
  exact ⟨bc, cc, q1, q2, q3, q4, (hoth bc (fun e1 => q4 (by rw [hob, e1]))).trans q5, q6⟩
theorem WrX.op {B T : Nat} {ob : Option Addr} {es : List RE} {X0 X : World} (h : WrX B T ob es X0 X) (bc j : Nat) {e0 : RE} (he0 : e0 ∈ es) (hbc : e0.2.1 = some ⟨bc, 0, none⟩) (v : Value) : WrX B T ob es X0 (X.setCell ⟨bc, j, none⟩ v) := by
 obtain ⟨b', cur, h1, h2, h3, h4, h5, h6⟩ := h.cds e0 he0
 rw [hbc] at h1
 simp only [Option.some.injEq, Addr.mk.injEq] at h1
 obtain ⟨rfl, _⟩ := h1
 rw [setCell_eq_setRow _ _ _ _ _ _ _ h5]
 have hoth : ∀ k, k ≠ bc → (X.setRow bc (cur.setIfInBounds j v)).heap[k]? = X.heap[k]? := fun k hk => row_heap X bc k _ hk
 refine ⟨⟨h.fr.1, h.fr.2.1, h.fr.2.2.1, by rw [row_size]; exact h.fr.2.2.2⟩, fun k hk => (hoth k (by omega)).trans (h.out k hk), fun h0 => ?_, fun e he => ?_⟩
 ·
  obtain ⟨b, cr, q1, q2, q3, q4, q5, q6⟩ := h.rul h0
  exact ⟨b, cr, q1, q2, q3, (hoth b (fun e1 => h4 (by rw [q1, e1]))).trans q4, q5, q6⟩
 ·
  obtain ⟨b, cc, q1, q2, q3, q4, q5, q6⟩ := h.cds e he
  by_cases hbb : b = bc
  ·
   subst hbb
   have : cc = cur := by rw [h5] at q5; simpa using q5.symm
   subst this
   exact ⟨b, _, q1, q2, q3, q4, setRow_heap _ _ _ _ _ _ h5, by simpa using q6⟩
  ·
   exact ⟨b, cc, q1, q2, q3, q4, (hoth b hbb).trans q5, q6⟩
theorem WrX.cell {B T : Nat} {ob : Option Addr} {es : List RE} {X0 X : World} (h : WrX B T ob es X0 X) {b : Nat} (hb : T ≤ b) (j : Nat) : X.cell? ⟨b, j, none⟩ = X0.cell? ⟨b, j, none⟩ := cell_heap (h.out b (.inr hb)) j
theorem WrX.below {B T : Nat} {ob : Option Addr} {es : List RE} {V X0 X : World} (h : WrX B T ob es X0 X) (hb : Below V.heap.size V X0) (hB : V.heap.size ≤ B) : Below V.heap.size V X :=
 hb.trans ⟨h.fr.1, h.fr.2.1, h.fr.2.2.1, by rw [h.fr.2.2.2]; exact Nat.le_refl _, fun k hk => h.out k (.inl (by omega))⟩
theorem WrX.ward {B T : Nat} {ob : Option Addr} {es : List RE} {p : POL} {g gm : Nat} {P : PV} {w w' X0 X : World} (h : WrX B T ob es X0 X) (hN : NX p g gm P w w') (hT : T ≤ w.heap.size) (hb : Below w'.heap.size w' X0) : WX g gm P newS (.slice none 0 0) X := by
 have hw := hN.ward
 have hg := hw.glt
 have hm := hw.mlt
 have hbd := hw.bd
 obtain ⟨g1, g2, g3⟩ := hN.gb
 have hk : ∀ k, w.heap.size ≤ k → k < w'.heap.size → X.heap[k]? = w'.heap[k]? := fun k h1 h2 => (h.out k (.inr (by omega))).trans (hb.block k h2)
 refine ⟨(hk g (by omega) hg).trans hw.row, (hk gm (by omega) hm).trans hw.mem, World.ownsRow_nil _ _ _ _, hw.ne, fun k hk => (by cases hk), (by rw [h.fr.2.2.2]; exact Nat.le_trans hbd hb.size), fun U hU hs => hN.pin U (fun k h1 h2 => ?_) hs⟩
 exact (hU k h2 (by omega) (by omega) (fun e => by cases e)).trans (hk k h1 (by omega))
theorem BW.start {p : POL} {g gm : Nat} {P : PV} {V w w' X Y : World} {oa : Option Addr} {cap : Nat} (hN : NX p g gm P w w') (hw : WX g gm P newS (.slice none 0 0) X) (hs : w'.heap.size ≤ X.heap.size) (hV : Below V.heap.size V X) (hVw : V.heap.size ≤ w.heap.size)
  (hd : DX (X.heap.size + 1) ⟨p, oa, cap, V.heap.size⟩ newD (fun _ => .slice none 0 0) (.slice none 0 0) Y) (hb : Below X.heap.size X Y) : BW p V g gm P (.slice none 0 0) newS 0 (X.heap.size + 1) ⟨p, oa, cap, V.heap.size⟩ (fun _ => .slice none 0 0) (.slice none 0 0) newD Y := by
 obtain ⟨g1, g2, g3⟩ := hN.gb
 have hg := hN.ward.glt
 have hm := hN.ward.mlt
 have hbd := hN.ward.bd
 refine ⟨hw.on hb, hN.pol, rfl, new_inv p, Nat.le_refl _, below_next hV hb, hd, ⟨Nat.le_refl _, by omega⟩, fun k hk => ?_, fun k hk => ?_, fun k hk hk2 => ?_⟩
 ·
  rcases hk with rfl | rfl | hk
  ·
   exact g1
  ·
   exact g2
  ·
   cases hk
 ·
  rcases hk with rfl | hk | ⟨_, _, hk⟩
  ·
   omega
  ·
   cases hk
  ·
   cases hk
 ·
  rcases hk2 with rfl | hk2 | ⟨_, _, hk2⟩
  ·
   rcases hk with hk | hk | hk
   ·
    omega
   ·
    omega
   ·
    cases hk
  ·
   cases hk2
  ·
   cases hk2
end Go.Proofs.YtklibmijiecbfaaGreat
