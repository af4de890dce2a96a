/- Acts that came in, opened. -/
import Derived.Test.YtlpcjonklfnejaaMActs
import Derived.Test.YtlpcjonklfnejaaRowMore
namespace Go.Proofs.Ytlpcjonklfnejaa
open Go.ChangeShapes Go.WideShapes Go.ChangeAt Go.RowKit Go.WideMaps Go.WideElems
open Go.ChangeMaps (open_string shut_string)

theorem act_fields : ∃ f0 f1 f2 f3 f4 f5 : Field, Try.prog.underlying 48 = some (.struct #[f0, f1, f2, f3, f4, f5]) ∧ (f0.type = 9 ∧ f1.type = 3 ∧ f2.type = 42 ∧ f3.type = 9 ∧ f4.type = 4 ∧ f5.type = 46) ∧ (f0.offset = 0 ∧ f1.offset = 1 ∧ f2.offset = 2 ∧ f3.offset = 3 ∧ f4.offset = 4 ∧ f5.offset = 5) :=
  ⟨_, _, _, _, _, _, Try.underlying48, ⟨by kernel_rfl, by kernel_rfl, by kernel_rfl, by kernel_rfl, by kernel_rfl, by kernel_rfl⟩, by kernel_rfl, by kernel_rfl, by kernel_rfl, by kernel_rfl, by kernel_rfl, by kernel_rfl⟩
theorem cells_act : Try.prog.cellsOf 48 = 11 := by kernel_rfl
theorem cells_str : Try.prog.cellsOf 9 = 1 := by kernel_rfl
theorem cells_int : Try.prog.cellsOf 3 = 1 := by kernel_rfl
theorem cells_u64 : Try.prog.cellsOf 42 = 1 := by kernel_rfl
theorem cells_bool : Try.prog.cellsOf 4 = 1 := by kernel_rfl

theorem list11 {α : Type} {l : List α} (h : l.length = 11) : ∃ a0 a1 a2 a3 a4 a5 a6 a7 a8 a9 a10, l = [a0, a1, a2, a3, a4, a5, a6, a7, a8, a9, a10] := by
  match l, h with
  | [a0, a1, a2, a3, a4, a5, a6, a7, a8, a9, a10], _ => exact ⟨a0, a1, a2, a3, a4, a5, a6, a7, a8, a9, a10, rfl⟩

theorem cells_callA : Try.prog.cellsOf 46 = 6 := by kernel_rfl
theorem cells_u32A : Try.prog.cellsOf 43 = 1 := by kernel_rfl
theorem cells_arrA : Try.prog.cellsOf 44 = 4 := by kernel_rfl
theorem call_fieldsA : ∃ f0 f1 f2 : Field, Try.prog.underlying 46 = some (.struct #[f0, f1, f2]) ∧ (f0.type = 43 ∧ f1.type = 43 ∧ f2.type = 44) ∧ (f0.offset = 0 ∧ f1.offset = 1 ∧ f2.offset = 2) :=
  ⟨_, _, _, Try.underlying46, ⟨by kernel_rfl, by kernel_rfl, by kernel_rfl⟩, by kernel_rfl, by kernel_rfl, by kernel_rfl⟩
theorem list6 {α : Type} {l : List α} (h : l.length = 6) : ∃ a0 a1 a2 a3 a4 a5, l = [a0, a1, a2, a3, a4, a5] := by
  match l, h with
  | [a0, a1, a2, a3, a4, a5], _ => exact ⟨a0, a1, a2, a3, a4, a5, rfl⟩
set_option maxRecDepth 100000 in
/-- A call that is read, its cells. -/
theorem call_read {H : Type} {enc : TypeId × Value → H} {w : World} {base : Nat} {spare : Nat → Bool} {held : Bool} {n : Nat} {cs : List Value} {x : DataW H × List MemPlace} (h : DataW.trod enc Try.prog w base spare held n 46 cs = some x) :
    ∃ z0 z1 z2 z3 z4 z5 : Int, cs = [.int .u32 z0, .int .u32 z1, .int .u64 z2, .int .u64 z3, .int .u64 z4, .int .u64 z5] := by
  obtain ⟨f0, f1, f2, hu, ⟨t0, t1, t2⟩, o0, o1, o2⟩ := call_fieldsA
  obtain ⟨xs, m, _, _, hl, hlen, hf⟩ := DataW.trod_struct hu h
  rw [cells_callA] at hl
  obtain ⟨a0, a1, a2, a3, a4, a5, rfl⟩ := list6 hl
  have g0 := hf 0 f0 rfl
  have g1 := hf 1 f1 rfl
  have g2 := hf 2 f2 rfl
  have hlt : xs.length = 3 := hlen
  rw [t0, o0, cells_u32A, List.getElem?_eq_getElem (by omega)] at g0
  rw [t1, o1, cells_u32A, List.getElem?_eq_getElem (by omega)] at g1
  rw [t2, o2, cells_arrA, List.getElem?_eq_getElem (by omega)] at g2
  obtain ⟨s0, q0, _, _⟩ := DataW.trod_int Try.underlying43 g0
  obtain ⟨s1, q1, _, _⟩ := DataW.trod_int Try.underlying43 g1
  obtain ⟨ys, m', _, _, _, hyl, hy⟩ := DataW.trod_array Try.underlying44 g2
  have y0 := hy 0 (by omega)
  have y1 := hy 1 (by omega)
  have y2 := hy 2 (by omega)
  have y3 := hy 3 (by omega)
  rw [cells_u64, List.getElem?_eq_getElem (by omega)] at y0 y1 y2 y3
  obtain ⟨s2, q2, _, _⟩ := DataW.trod_int Try.underlying42 y0
  obtain ⟨s3, q3, _, _⟩ := DataW.trod_int Try.underlying42 y1
  obtain ⟨s4, q4, _, _⟩ := DataW.trod_int Try.underlying42 y2
  obtain ⟨s5, q5, _, _⟩ := DataW.trod_int Try.underlying42 y3
  simp at q0 q1 q2 q3 q4 q5
  subst q0 q1 q2 q3 q4 q5
  exact ⟨s0, s1, s2, s3, s4, s5, rfl⟩

/-- An act that is read, its cells. -/
theorem act_read {H : Type} {enc : TypeId × Value → H} {w : World} {base : Nat} {spare : Nat → Bool} {held : Bool} {n : Nat} {cs : List Value} {x : DataW H × List MemPlace} (h : DataW.trod enc Try.prog w base spare held n 48 cs = some x) :
    ∃ y : AC, cs = [.string y.kind, .int .i64 y.n, .int .u64 y.a, .string y.s, .bool y.wr, .int .u32 y.c0, .int .u32 y.c1, .int .u64 y.c2, .int .u64 y.c3, .int .u64 y.c4, .int .u64 y.c5] ∧ y.kind.size ≤ maxLen ∧ y.s.size ≤ maxLen ∧ y.a < 18446744073709551616 ∧ -9223372036854775808 ≤ y.n ∧ y.n ≤ 9223372036854775807 := by
  obtain ⟨f0, f1, f2, f3, f4, f5, hu, ⟨t0, t1, t2, t3, t4, t5⟩, o0, o1, o2, o3, o4, o5⟩ := act_fields
  obtain ⟨xs, m, _, _, hl, hlen, hf⟩ := DataW.trod_struct hu h
  rw [cells_act] at hl
  obtain ⟨a0, a1, a2, a3, a4, a5, a6, a7, a8, a9, a10, rfl⟩ := list11 hl
  have g0 := hf 0 f0 rfl
  have g1 := hf 1 f1 rfl
  have g2 := hf 2 f2 rfl
  have g3 := hf 3 f3 rfl
  have g4 := hf 4 f4 rfl
  have g5 := hf 5 f5 rfl
  have hlt : xs.length = 6 := hlen
  rw [t0, o0, cells_str, List.getElem?_eq_getElem (by omega)] at g0
  rw [t1, o1, cells_int, List.getElem?_eq_getElem (by omega)] at g1
  rw [t2, o2, cells_u64, List.getElem?_eq_getElem (by omega)] at g2
  rw [t3, o3, cells_str, List.getElem?_eq_getElem (by omega)] at g3
  rw [t4, o4, cells_bool, List.getElem?_eq_getElem (by omega)] at g4
  rw [t5, o5, cells_callA, List.getElem?_eq_getElem (by omega)] at g5
  obtain ⟨z0, z1, z2, z3, z4, z5, q5⟩ := call_read g5
  obtain ⟨s0, q0, _, w0⟩ := DataW.trod_string Try.underlying9 g0
  obtain ⟨s1, q1, _, w1⟩ := DataW.trod_int Try.underlying3 g1
  obtain ⟨s2, q2, _, w2⟩ := DataW.trod_int Try.underlying42 g2
  obtain ⟨s3, q3, _, w3⟩ := DataW.trod_string Try.underlying9 g3
  obtain ⟨s4, q4, _⟩ := DataW.trod_bool Try.underlying4 g4
  simp at q0 q1 q2 q3 q4 q5
  obtain ⟨rfl, rfl, rfl, rfl, rfl, rfl⟩ := q5
  obtain ⟨k2, rfl, hk2⟩ := u64_wf w2
  subst q0 q1 q2 q3 q4
  exact ⟨⟨s0, s1, k2, s3, s4, z0, z1, z2, z3, z4, z5⟩, rfl, w0, w3, hk2, i64_wf w1⟩

set_option maxRecDepth 100000 in
/-- A slice of acts that came in, opened. -/
theorem open_acts {H : Type} {enc : TypeId × Value → H} {W : World} {v : Value} {d : DataW H} {p : List MemPlace} {r : Reach} {b0 : Nat} (hv : Value.okWide Try.prog W r b0 32 v) (h : DataW.Trod enc Try.prog W 0 (fun _ => true) true 32 v d p) :
    ∃ (oa : Option Addr) (n cap : Nat) (L : Nat → AC), v = .slice oa n cap ∧ n ≤ maxLen ∧ IsActs oa n L W := by
  obtain ⟨oa, n, cap, rfl⟩ := okWide_slice Try.underlying32 hv
  obtain ⟨fuel, hf⟩ := h
  rcases Go.Deep.open_slice Try.underlying32 hf with ⟨hcs, _⟩ | ⟨a, len, cap', m, fu, D, Pl, hcs, _, hl, hm, hmm, _, hx⟩
  · simp only [Value.cells, List.cons.injEq, Value.slice.injEq, and_true] at hcs
    obtain ⟨rfl, rfl, rfl⟩ := hcs
    exact ⟨none, 0, 0, fun _ => ⟨⟨#[]⟩, 0, 0, ⟨#[]⟩, false, 0, 0, 0, 0, 0, 0⟩, rfl, Nat.zero_le _, ⟨fun h0 => absurd h0 (Nat.lt_irrefl 0)⟩⟩
  · simp only [Value.cells, List.cons.injEq, Value.slice.injEq, and_true] at hcs
    obtain ⟨rfl, rfl, rfl⟩ := hcs
    rw [if_pos rfl] at hmm
    subst hmm
    rw [cells_act] at hx
    have hy : ∀ i, i < n → ∃ y : AC, ∃ cs', W.cells? 0 (a.add (i * 11)) 11 = some cs' ∧ cs' = [.string y.kind, .int .i64 y.n, .int .u64 y.a, .string y.s, .bool y.wr, .int .u32 y.c0, .int .u32 y.c1, .int .u64 y.c2, .int .u64 y.c3, .int .u64 y.c4, .int .u64 y.c5] ∧ y.kind.size ≤ maxLen ∧ y.s.size ≤ maxLen ∧ y.a < 18446744073709551616 ∧ -9223372036854775808 ≤ y.n ∧ y.n ≤ 9223372036854775807 := fun i hi => by
      obtain ⟨cs', h1, h2⟩ := hx i (by omega)
      obtain ⟨y, h3, h4⟩ := act_read h2
      exact ⟨y, cs', h1, h3, h4⟩
    haveI : Inhabited AC := ⟨⟨⟨#[]⟩, 0, 0, ⟨#[]⟩, false, 0, 0, 0, 0, 0, 0⟩⟩
    obtain ⟨L, hL⟩ := Go.Deep.choose_lt hy
    refine ⟨some a, n, m, L, rfl, Nat.le_trans hl hm, ⟨fun h0 => ?_⟩⟩
    obtain ⟨b, off, spot⟩ := a
    obtain ⟨cs0, k1, k2, _⟩ := hL 0 h0
    have hc0 := (World.cells?_some k1).2.2 0 (by omega)
    rw [k2] at hc0
    have hspot : spot = none := by simpa [Addr.add] using World.cell?_spot hc0
    subst hspot
    refine ⟨b, off, rfl, World.cells?_block (by rw [Nat.zero_mul] at k1; simpa [Addr.add] using k1) (by omega : 0 < 11), fun i hi => ?_⟩
    obtain ⟨cs', k1, rfl, k3, k4, k5, k6, k7⟩ := hL i hi
    exact ⟨elem_cells k1 0 (by omega), elem_cells k1 1 (by omega), elem_cells k1 2 (by omega), elem_cells k1 3 (by omega), elem_cells k1 4 (by omega), elem_cells k1 5 (by omega), elem_cells k1 6 (by omega), elem_cells k1 7 (by omega), elem_cells k1 8 (by omega), elem_cells k1 9 (by omega), elem_cells k1 10 (by omega), k3, k4, k5, k6, k7⟩
end Go.Proofs.Ytlpcjonklfnejaa
