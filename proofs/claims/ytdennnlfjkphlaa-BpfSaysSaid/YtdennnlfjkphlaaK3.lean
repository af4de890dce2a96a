/- BpfSays returns true for all programs, calls and places, and leaves them as they were. -/
import Derived.Test.YtdennnlfjkphlaaK1
import Derived.Test.YtdennnlfjkphlaaK2
/- Programs and calls that came in, opened. -/
namespace Go.Proofs.Ytdennnlfjkphlaa
open Go.ChangeShapes Go.WideShapes Go.ChangeAt Go.RowKit Go.WideMaps Go.WideElems

theorem ins_fields : ∃ f0 f1 f2 f3 : Field, Try.prog.underlying 78 = some (.struct #[f0, f1, f2, f3]) ∧ (f0.type = 3 ∧ f1.type = 3 ∧ f2.type = 3 ∧ f3.type = 43) ∧ (f0.offset = 0 ∧ f1.offset = 1 ∧ f2.offset = 2 ∧ f3.offset = 3) :=
  ⟨_, _, _, _, Try.underlying78, ⟨by kernel_rfl, by kernel_rfl, by kernel_rfl, by kernel_rfl⟩, by kernel_rfl, by kernel_rfl, by kernel_rfl, by kernel_rfl⟩
theorem call_fields : ∃ f0 f1 f2 : Field, Try.prog.underlying 46 = some (.struct #[f0, f1, f2]) ∧ (f0.type = 43 ∧ f1.type = 43 ∧ f2.type = 44) ∧ (f0.offset = 0 ∧ f1.offset = 1 ∧ f2.offset = 2) :=
  ⟨_, _, _, Try.underlying46, ⟨by kernel_rfl, by kernel_rfl, by kernel_rfl⟩, by kernel_rfl, by kernel_rfl, by kernel_rfl⟩
theorem cells_ins : Try.prog.cellsOf 78 = 4 := by kernel_rfl
theorem cells_call : Try.prog.cellsOf 46 = 6 := by kernel_rfl
theorem cells_i : Try.prog.cellsOf 3 = 1 := by kernel_rfl
theorem cells_32 : Try.prog.cellsOf 43 = 1 := by kernel_rfl
theorem cells_64 : Try.prog.cellsOf 42 = 1 := by kernel_rfl
theorem cells_arr4 : Try.prog.cellsOf 44 = 4 := by kernel_rfl

theorem list4 {α : Type} {l : List α} (h : l.length = 4) : ∃ a0 a1 a2 a3, l = [a0, a1, a2, a3] := by
  match l, h with
  | [a0, a1, a2, a3], _ => exact ⟨a0, a1, a2, a3, rfl⟩
theorem array6 {α : Type} {l : Array α} (h : l.size = 6) : ∃ a0 a1 a2 a3 a4 a5, l = #[a0, a1, a2, a3, a4, a5] := by
  obtain ⟨l⟩ := l
  match l, h with
  | [a0, a1, a2, a3, a4, a5], _ => exact ⟨a0, a1, a2, a3, a4, a5, rfl⟩

theorem ins_read {H : Type} {enc : TypeId × Value → H} {w : World} {base : Nat} {spare : Nat → Bool} {held : Bool} {n : Nat} {cs : List Value} {x : DataW H × List MemPlace} (h : DataW.trod enc Try.prog w base spare held n 78 cs = some x) :
    ∃ y : IN, cs = [.int .i64 y.op, .int .i64 y.jt, .int .i64 y.jf, .int .u32 y.k] ∧ InOk y := by
  obtain ⟨f0, f1, f2, f3, hu, ⟨t0, t1, t2, t3⟩, o0, o1, o2, o3⟩ := ins_fields
  obtain ⟨xs, m, _, _, hl, hlen, hf⟩ := DataW.trod_struct hu h
  rw [cells_ins] at hl
  obtain ⟨a0, a1, a2, a3, rfl⟩ := list4 hl
  have g0 := hf 0 f0 rfl
  have g1 := hf 1 f1 rfl
  have g2 := hf 2 f2 rfl
  have g3 := hf 3 f3 rfl
  have hlt : xs.length = 4 := hlen
  rw [t0, o0, cells_i, List.getElem?_eq_getElem (by omega)] at g0
  rw [t1, o1, cells_i, List.getElem?_eq_getElem (by omega)] at g1
  rw [t2, o2, cells_i, List.getElem?_eq_getElem (by omega)] at g2
  rw [t3, o3, cells_32, List.getElem?_eq_getElem (by omega)] at g3
  obtain ⟨s0, q0, _, w0⟩ := DataW.trod_int Try.underlying3 g0
  obtain ⟨s1, q1, _, w1⟩ := DataW.trod_int Try.underlying3 g1
  obtain ⟨s2, q2, _, w2⟩ := DataW.trod_int Try.underlying3 g2
  obtain ⟨s3, q3, _, w3⟩ := DataW.trod_int Try.underlying43 g3
  simp at q0 q1 q2 q3
  obtain ⟨k3, rfl, hk3⟩ := u32_wf w3
  subst q0 q1 q2 q3
  exact ⟨⟨s0, s1, s2, k3⟩, rfl, ⟨(i64_wf w0).1, (i64_wf w0).2, (i64_wf w1).1, (i64_wf w1).2, (i64_wf w2).1, (i64_wf w2).2, hk3⟩⟩

set_option maxRecDepth 100000 in
/-- A program that came in, opened. -/
theorem open_prog {H : Type} {enc : TypeId × Value → H} {W : World} {v : Value} {d : DataW H} {p : List MemPlace} {r : Reach} {b0 : Nat} (hv : Value.okWide Try.prog W r b0 76 v) (h : DataW.Trod enc Try.prog W 0 (fun _ => true) true 76 v d p) :
    ∃ (oa : Option Addr) (n cap : Nat) (L : Nat → IN), v = .slice oa n cap ∧ n ≤ cap ∧ cap ≤ maxLen ∧ IsProg oa n L W := by
  obtain ⟨oa, n, cap, rfl⟩ := okWide_slice Try.underlying76 hv
  obtain ⟨fuel, hf⟩ := h
  rcases Go.Deep.open_slice Try.underlying76 hf with ⟨hcs, _⟩ | ⟨a, len, cap', m, fu, D, Pl, hcs, _, hl, hm, hmm, _, hx⟩
  · simp only [Value.cells, List.cons.injEq, Value.slice.injEq, and_true] at hcs
    obtain ⟨rfl, rfl, rfl⟩ := hcs
    exact ⟨none, 0, 0, fun _ => ⟨0, 0, 0, 0⟩, rfl, Nat.le_refl _, Nat.zero_le _, ⟨fun h0 => absurd h0 (Nat.lt_irrefl 0)⟩⟩
  · simp only [Value.cells, List.cons.injEq, Value.slice.injEq, and_true] at hcs
    obtain ⟨rfl, rfl, rfl⟩ := hcs
    rw [if_pos rfl] at hmm
    subst hmm
    rw [cells_ins] at hx
    have hy : ∀ i, i < n → ∃ y : IN, ∃ cs', W.cells? 0 (a.add (i * 4)) 4 = some cs' ∧ cs' = [.int .i64 y.op, .int .i64 y.jt, .int .i64 y.jf, .int .u32 y.k] ∧ InOk y := fun i hi => by
      obtain ⟨cs', h1, h2⟩ := hx i (by omega)
      obtain ⟨y, h3, h4⟩ := ins_read h2
      exact ⟨y, cs', h1, h3, h4⟩
    haveI : Inhabited IN := ⟨⟨0, 0, 0, 0⟩⟩
    obtain ⟨L, hL⟩ := Go.Deep.choose_lt hy
    refine ⟨some a, n, m, L, rfl, hl, hm, ⟨fun h0 => ?_⟩⟩
    obtain ⟨b, off, spot⟩ := a
    obtain ⟨cs0, k1, k2, _⟩ := hL 0 h0
    have hc0 := (World.cells?_some k1).2.2 0 (by omega)
    rw [k2] at hc0
    have hspot : spot = none := by simpa [Addr.add] using World.cell?_spot hc0
    subst hspot
    refine ⟨b, off, rfl, World.cells?_block (by rw [Nat.zero_mul] at k1; simpa [Addr.add] using k1) (by omega : 0 < 4), fun i hi => ?_⟩
    obtain ⟨cs', k1, rfl, k3⟩ := hL i hi
    exact ⟨elem_cells k1 0 (by omega), elem_cells k1 1 (by omega), elem_cells k1 2 (by omega), elem_cells k1 3 (by omega), k3⟩

set_option maxRecDepth 100000 in
/-- A call that came in, opened. -/
theorem open_call {H : Type} {enc : TypeId × Value → H} {w : World} {base : Nat} {spare : Nat → Bool} {held : Bool} {r : Reach} {b0 : Nat} {v : Value} {d : DataW H} {p : List MemPlace} (hv : Value.okWide Try.prog w r b0 46 v) (h : DataW.Trod enc Try.prog w base spare held 46 v d p) :
    ∃ c : CL, v = callV c ∧ ClOk c := by
  obtain ⟨f0, f1, f2, hu, ⟨t0, t1, t2⟩, o0, o1, o2⟩ := call_fields
  obtain ⟨cs, rfl, hsz⟩ := okWide_struct hu hv
  obtain ⟨a0, a1, a2, a3, a4, a5, rfl⟩ := array6 (hsz.trans cells_call)
  obtain ⟨fuel, hf⟩ := h
  obtain ⟨xs, m, _, _, hl, hlen, hf⟩ := DataW.trod_struct hu hf
  have g0 := hf 0 f0 rfl
  have g1 := hf 1 f1 rfl
  have g2 := hf 2 f2 rfl
  have hlt : xs.length = 3 := hlen
  rw [t0, o0, cells_32, List.getElem?_eq_getElem (by omega)] at g0
  rw [t1, o1, cells_32, List.getElem?_eq_getElem (by omega)] at g1
  rw [t2, o2, cells_arr4, List.getElem?_eq_getElem (by omega)] at g2
  obtain ⟨s0, q0, _, w0⟩ := DataW.trod_int Try.underlying43 g0
  obtain ⟨s1, q1, _, w1⟩ := DataW.trod_int Try.underlying43 g1
  obtain ⟨ys, m', _, _, _, hyl, hy⟩ := DataW.trod_array Try.underlying44 g2
  have y0 := hy 0 (by omega)
  have y1 := hy 1 (by omega)
  have y2 := hy 2 (by omega)
  have y3 := hy 3 (by omega)
  rw [cells_64, List.getElem?_eq_getElem (by omega)] at y0 y1 y2 y3
  obtain ⟨s2, q2, _, w2⟩ := DataW.trod_int Try.underlying42 y0
  obtain ⟨s3, q3, _, w3⟩ := DataW.trod_int Try.underlying42 y1
  obtain ⟨s4, q4, _, w4⟩ := DataW.trod_int Try.underlying42 y2
  obtain ⟨s5, q5, _, w5⟩ := DataW.trod_int Try.underlying42 y3
  simp [Value.cells] at q0 q1 q2 q3 q4 q5
  obtain ⟨k0, rfl, h0⟩ := u32_wf w0
  obtain ⟨k1, rfl, h1⟩ := u32_wf w1
  obtain ⟨k2, rfl, h2⟩ := u64_wf w2
  obtain ⟨k3, rfl, h3⟩ := u64_wf w3
  obtain ⟨k4, rfl, h4⟩ := u64_wf w4
  obtain ⟨k5, rfl, h5⟩ := u64_wf w5
  subst q0 q1 q2 q3 q4 q5
  exact ⟨⟨k0, k1, k2, k3, k4, k5⟩, rfl, ⟨h0, h1, h2, h3, h4, h5⟩⟩
end Go.Proofs.Ytdennnlfjkphlaa

namespace Go.Proofs.Ytdennnlfjkphlaa
open Go.ChangeShapes Go.WideShapes Go.ChangeAt Go.RowKit Go.WideMaps Go.WideElems

/-- A slice that is nowhere has nothing. -/
theorem nil_slice {H : Type} {enc : TypeId × Value → H} {W : World} {n cap : Nat} {d : DataW H} {p : List MemPlace} (h : DataW.Trod enc Try.prog W 0 (fun _ => true) true 76 (.slice none n cap) d p) : n = 0 ∧ cap = 0 := by
  obtain ⟨fuel, hf⟩ := h
  rcases Go.Deep.open_slice Try.underlying76 hf with ⟨hcs, _⟩ | ⟨a, len, cap', m, fu, D, Pl, hcs, _⟩
  · simp only [Value.cells, List.cons.injEq, Value.slice.injEq, and_true, true_and] at hcs
    exact hcs
  · simp [Value.cells] at hcs

set_option maxRecDepth 100000 in
theorem bpfSays_lifted (os : Os) (started : os.Started) (H : Type) (enc : TypeId × Value → H) :
    ReturnsInHanded {} Try.checked os 7 .any (Rows.bpfSaysSpec.pre6 enc Try.prog Try.f7 Rows.bpfSaysRow.domain false) (Rows.bpfSaysSpec.post enc Try.prog Try.f7 false true false false) := by
  refine returnsInHanded_of_change (C := Try.checked) own started (by kernel_rfl) Try.func7
    (ChangeSpec.witness6 (enc := enc) (C := Try.checked) false ⟨#[], #[.slice none 0 0, .agg #[.int .u32 0, .int .u32 0, .int .u64 0, .int .u64 0, .int .u64 0, .int .u64 0], .int .u32 0], []⟩ 8 (by kernel_rfl) (by kernel_rfl) (by kernel_rfl) (by kernel_rfl)) ?_
  intro W base args ds gs before hval0 hW hcnd _
  have hval : ∀ (j : Nat) t v, Try.f7.params[j]? = some t → args[j]? = some v → Value.okWide Try.prog W .any base t v := hval0
  have hW' := hW
  obtain ⟨p, q, hA0, hV, rfl, hfz, hnd⟩ := hW
  have hA : DataW.TrodAll enc Try.prog W 0 (fun _ => true) true Try.f7.params.toList args.toList ds p := hA0
  rw [Try.params7] at hA hval
  obtain ⟨v0, v1, v2, d0, d1, d2, p0, p1, p2, rfl, rfl, rfl, h0, h1, h2⟩ := trodAll_three hA
  obtain ⟨rfl, rfl⟩ := trodVars_none hV
  obtain ⟨oa, n, cap, L, rfl, hn, hcap, hL⟩ := open_prog (hval 0 76 v0 rfl rfl) h0
  obtain ⟨c, rfl, hc⟩ := open_call (hval 1 46 v1 rfl rfl) h1
  obtain ⟨k, rfl, rfl, rfl, hw2⟩ := open_int Try.underlying43 (hval 2 43 v2 rfl rfl) h2
  obtain ⟨x, rfl, hx⟩ := u32_wf hw2
  clear hA0 hval0
  simp only [List.append_nil] at hW'
  have hnil : oa = none → n = 0 ∧ cap = 0 := fun e => by subst e; exact nil_slice h0
  have hok : ∀ i, i < n → InOk (L i) := fun i hi => by
    obtain ⟨_, _, _, _, h3⟩ := hL.lie (by omega)
    exact (h3 i hi).ok
  refine (bpfSays_any oa n cap (by unfold maxLen at hcap; omega) L c hc x hx hnil W hL hok).mono fun e W' ⟨he, hb⟩ => ?_
  subst he
  have hlt : ∀ x ∈ p0 ++ p1, x.block < W.heap.size := fun x hx => by simpa using hW'.lt x hx
  exact ⟨_, rfl, post_law' (pa := p0 ++ p1) (pv := []) hW' (fun _ _ _ => trodAll_mk1 (shut_bool Try.underlying4 _))
    (by
      have h := trodAll_mk3 (Below.trod laidOut (by kernel_rfl) (of_decide_eq_true (by kernel_rfl)) h0 hb fun x hx => hlt x (List.mem_append.2 (.inl hx))) (Below.trod laidOut (by kernel_rfl) (of_decide_eq_true (by kernel_rfl)) h1 hb fun x hx => hlt x (List.mem_append.2 (.inr hx))) (shut_int (enc := enc) (P := Try.prog) (w := W') (base := 0) (spare := fun b => decide (b < W.heap.size)) (held := true) Try.underlying43 hw2)
      rw [List.append_nil] at h
      exact h) (fun _ _ => rfl) (List.append_nil _).symm hb⟩

theorem bpfSays_holds : Rows.BpfSaysSaid :=
  OpenClaim.holds_of_wide 7 Try.f7 rfl rfl rfl rfl rfl rfl rfl ⟨rfl, rfl, rfl, rfl, rfl⟩ rfl rfl rfl rfl rfl (by kernel_rfl) Try.func7 (by kernel_rfl)
    (of_decide_eq_true (by kernel_rfl)) (by unfold Func.isWrapper; first | (rw [if_pos (by decide +kernel)]; kernel_rfl) | (rw [if_neg (by decide +kernel)]; exact ⟨rfl, rfl⟩))
    (fun os started H enc _ => bpfSays_lifted os started H enc)
#print axioms bpfSays_holds
end Go.Proofs.Ytdennnlfjkphlaa
