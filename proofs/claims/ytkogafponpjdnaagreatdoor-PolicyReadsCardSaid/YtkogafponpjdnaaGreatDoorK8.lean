/- Policies, calls and values that came in, opened. -/
import Derived.Test.YtkogafponpjdnaaGreatDoorK7
import Derived.Test.YtkogafponpjdnaaGreatDoorCards
import Derived.Test.YtkogafponpjdnaaGreatDoorTie
import Derived.LaidMore
import Derived.Stop.Joined
import Derived.MakeChecks
import Derived.Lib.LaidTab
import Derived.Stop.LaidErr
import Derived.Shelf.Vars
import Derived.Test.YtkogafponpjdnaaGreatDoorK1
import Derived.Lib.ItoaLen
import Derived.Laws.BytesString
import Derived.Test.YtkogafponpjdnaaGreatDoorK5
import Derived.Deep.RegionWith
import Derived.Test.YtkogafponpjdnaaGreatDoorK4
namespace Go.Proofs.YtkogafponpjdnaaGreatDoor
open Go.ChangeShapes Go.WideShapes Go.ChangeAt Go.RowKit Go.WideMaps Go.WideElems

theorem cond_fields : ∃ f0 f1 f2 f3 f4 f5 : Field, Tryz.prog.underlying 69 = some (.struct #[f0, f1, f2, f3, f4, f5]) ∧ (f0.type = 3 ∧ f1.type = 3 ∧ f2.type = 28 ∧ f3.type = 28 ∧ f4.type = 9 ∧ f5.type = 67) ∧ (f0.offset = 0 ∧ f1.offset = 1 ∧ f2.offset = 2 ∧ f3.offset = 3 ∧ f4.offset = 4 ∧ f5.offset = 5) :=
  ⟨_, _, _, _, _, _, Tryz.underlying69, ⟨by kernel_rfl, by kernel_rfl, by kernel_rfl, by kernel_rfl, by kernel_rfl, by kernel_rfl⟩, by kernel_rfl, by kernel_rfl, by kernel_rfl, by kernel_rfl, by kernel_rfl, by kernel_rfl⟩
theorem net_fields : ∃ f0 f1 f2 f3 : Field, Tryz.prog.underlying 67 = some (.struct #[f0, f1, f2, f3]) ∧ (f0.type = 27 ∧ f1.type = 3 ∧ f2.type = 3 ∧ f3.type = 3) ∧ (f0.offset = 0 ∧ f1.offset = 1 ∧ f2.offset = 2 ∧ f3.offset = 3) :=
  ⟨_, _, _, _, Tryz.underlying67, ⟨by kernel_rfl, by kernel_rfl, by kernel_rfl, by kernel_rfl⟩, by kernel_rfl, by kernel_rfl, by kernel_rfl, by kernel_rfl⟩
theorem rule_fields : ∃ f0 f1 f2 : Field, Tryz.prog.underlying 65 = some (.struct #[f0, f1, f2]) ∧ (f0.type = 3 ∧ f1.type = 63 ∧ f2.type = 24) ∧ (f0.offset = 0 ∧ f1.offset = 1 ∧ f2.offset = 2) :=
  ⟨_, _, _, Tryz.underlying65, ⟨by kernel_rfl, by kernel_rfl, by kernel_rfl⟩, by kernel_rfl, by kernel_rfl, by kernel_rfl⟩
theorem action_fields : ∃ f0 f1 : Field, Tryz.prog.underlying 24 = some (.struct #[f0, f1]) ∧ (f0.type = 3 ∧ f1.type = 3) ∧ (f0.offset = 0 ∧ f1.offset = 1) :=
  ⟨_, _, Tryz.underlying24, ⟨by kernel_rfl, by kernel_rfl⟩, by kernel_rfl, by kernel_rfl⟩
theorem pol_fields : ∃ f0 f1 : Field, Tryz.prog.underlying 26 = some (.struct #[f0, f1]) ∧ (f0.type = 22 ∧ f1.type = 24) ∧ (f0.offset = 0 ∧ f1.offset = 1) :=
  ⟨_, _, Tryz.underlying26, ⟨by kernel_rfl, by kernel_rfl⟩, by kernel_rfl, by kernel_rfl⟩
theorem call_fields : ∃ f0 f1 f2 : Field, Tryz.prog.underlying 31 = some (.struct #[f0, f1, f2]) ∧ (f0.type = 27 ∧ f1.type = 27 ∧ f2.type = 29) ∧ (f0.offset = 0 ∧ f1.offset = 1 ∧ f2.offset = 2) :=
  ⟨_, _, _, Tryz.underlying31, ⟨by kernel_rfl, by kernel_rfl, by kernel_rfl⟩, by kernel_rfl, by kernel_rfl, by kernel_rfl⟩
theorem value_fields : ∃ f0 f1 f2 : Field, Tryz.prog.underlying 33 = some (.struct #[f0, f1, f2]) ∧ (f0.type = 9 ∧ f1.type = 27 ∧ f2.type = 3) ∧ (f0.offset = 0 ∧ f1.offset = 1 ∧ f2.offset = 2) :=
  ⟨_, _, _, Tryz.underlying33, ⟨by kernel_rfl, by kernel_rfl, by kernel_rfl⟩, by kernel_rfl, by kernel_rfl, by kernel_rfl⟩
theorem cells_cond : Tryz.prog.cellsOf 69 = 9 := by kernel_rfl
theorem cells_net : Tryz.prog.cellsOf 67 = 4 := by kernel_rfl
theorem cells_rule : Tryz.prog.cellsOf 65 = 4 := by kernel_rfl
theorem cells_action : Tryz.prog.cellsOf 24 = 2 := by kernel_rfl
theorem cells_pol : Tryz.prog.cellsOf 26 = 3 := by kernel_rfl
theorem cells_conds : Tryz.prog.cellsOf 63 = 1 := by kernel_rfl
theorem cells_rules : Tryz.prog.cellsOf 22 = 1 := by kernel_rfl
theorem cells_call : Tryz.prog.cellsOf 31 = 6 := by kernel_rfl
theorem cells_value : Tryz.prog.cellsOf 33 = 3 := by kernel_rfl
theorem cells_vals : Tryz.prog.cellsOf 35 = 12 := by kernel_rfl
theorem cells_i : Tryz.prog.cellsOf 3 = 1 := by kernel_rfl
theorem cells_s : Tryz.prog.cellsOf 9 = 1 := by kernel_rfl
theorem cells_32 : Tryz.prog.cellsOf 27 = 1 := by kernel_rfl
theorem cells_64 : Tryz.prog.cellsOf 28 = 1 := by kernel_rfl
theorem cells_arr4 : Tryz.prog.cellsOf 29 = 4 := by kernel_rfl

theorem list2 {α : Type} {l : List α} (h : l.length = 2) : ∃ a0 a1, l = [a0, a1] := by
  match l, h with
  | [a0, a1], _ => exact ⟨a0, a1, rfl⟩
theorem list3 {α : Type} {l : List α} (h : l.length = 3) : ∃ a0 a1 a2, l = [a0, a1, a2] := by
  match l, h with
  | [a0, a1, a2], _ => exact ⟨a0, a1, a2, rfl⟩
theorem list4 {α : Type} {l : List α} (h : l.length = 4) : ∃ a0 a1 a2 a3, l = [a0, a1, a2, a3] := by
  match l, h with
  | [a0, a1, a2, a3], _ => exact ⟨a0, a1, a2, a3, rfl⟩
theorem list9 {α : Type} {l : List α} (h : l.length = 9) : ∃ a0 a1 a2 a3 a4 a5 a6 a7 a8, l = [a0, a1, a2, a3, a4, a5, a6, a7, a8] := by
  match l, h with
  | [a0, a1, a2, a3, a4, a5, a6, a7, a8], _ => exact ⟨a0, a1, a2, a3, a4, a5, a6, a7, a8, rfl⟩
theorem array3 {α : Type} {l : Array α} (h : l.size = 3) : ∃ a0 a1 a2, l = #[a0, a1, a2] := by
  obtain ⟨l⟩ := l
  match l, h with
  | [a0, a1, a2], _ => exact ⟨a0, a1, a2, rfl⟩
theorem array6 {α : Type} {l : Array α} (h : l.size = 6) : ∃ a0 a1 a2 a3 a4 a5, l = #[a0, a1, a2, a3, a4, a5] := by
  obtain ⟨l⟩ := l
  match l, h with
  | [a0, a1, a2, a3, a4, a5], _ => exact ⟨a0, a1, a2, a3, a4, a5, rfl⟩
theorem array12 {α : Type} {l : Array α} (h : l.size = 12) : ∃ a0 a1 a2 a3 a4 a5 a6 a7 a8 a9 a10 a11, l = #[a0, a1, a2, a3, a4, a5, a6, a7, a8, a9, a10, a11] := by
  obtain ⟨l⟩ := l
  match l, h with
  | [a0, a1, a2, a3, a4, a5, a6, a7, a8, a9, a10, a11], _ => exact ⟨a0, a1, a2, a3, a4, a5, a6, a7, a8, a9, a10, a11, rfl⟩
/-- Elements, one by one, as a list. -/
theorem list_of {α : Type} {n : Nat} {p : Nat → α → Prop} (h : ∀ i, i < n → ∃ x, p i x) : ∃ l : List α, l.length = n ∧ ∀ i x, l[i]? = some x → p i x := by
  induction n with
  | zero => exact ⟨[], rfl, fun i x hx => by simp at hx⟩
  | succ n ih =>
    obtain ⟨l, hl, hp⟩ := ih fun i hi => h i (by omega)
    obtain ⟨y, hy⟩ := h n (by omega)
    refine ⟨l ++ [y], by simp [hl], fun i x hx => ?_⟩
    by_cases hi : i < n
    · rw [List.getElem?_append_left (by omega)] at hx
      exact hp i x hx
    · rw [List.getElem?_append_right (by omega)] at hx
      have hlt := (List.getElem?_eq_some_iff.1 hx).1
      simp only [List.length_singleton] at hlt
      obtain rfl : i = n := by omega
      rw [hl, Nat.sub_self] at hx
      obtain rfl := Option.some.inj hx
      exact hy

variable {H : Type} {enc : TypeId × Value → H} {w : World} {base : Nat} {spare : Nat → Bool} {held : Bool} {n : Nat} {cs : List Value} {x : DataW H × List MemPlace}
theorem i64_ok {n : Int} (h : (Lit.int .i64 n).wf = true) : I64 n := i64_wf h
theorem action_read (h : DataW.trod enc Tryz.prog w base spare held n 24 cs = some x) : ∃ a : ACT, cs = [.int .i64 a.kind, .int .i64 a.errno] ∧ AcOk a := by
  obtain ⟨f0, f1, hu, ⟨t0, t1⟩, o0, o1⟩ := action_fields
  obtain ⟨xs, m, _, _, hl, hlen, hf⟩ := DataW.trod_struct hu h
  rw [cells_action] at hl
  obtain ⟨a0, a1, rfl⟩ := list2 hl
  have g0 := hf 0 f0 rfl
  have g1 := hf 1 f1 rfl
  have hlt : xs.length = 2 := hlen
  rw [t0, o0, cells_i, List.getElem?_eq_getElem (by omega)] at g0
  rw [t1, o1, cells_i, List.getElem?_eq_getElem (by omega)] at g1
  obtain ⟨s0, q0, _, w0⟩ := DataW.trod_int Tryz.underlying3 g0
  obtain ⟨s1, q1, _, w1⟩ := DataW.trod_int Tryz.underlying3 g1
  simp at q0 q1
  subst q0 q1
  exact ⟨⟨s0, s1⟩, rfl, ⟨i64_ok w0, i64_ok w1⟩⟩
theorem net_read (h : DataW.trod enc Tryz.prog w base spare held n 67 cs = some x) : ∃ a : NT, cs = [.int .u32 a.ip, .int .i64 a.bits, .int .i64 a.lo, .int .i64 a.hi] ∧ NtOk a := by
  obtain ⟨f0, f1, f2, f3, hu, ⟨t0, t1, t2, t3⟩, o0, o1, o2, o3⟩ := net_fields
  obtain ⟨xs, m, _, _, hl, hlen, hf⟩ := DataW.trod_struct hu h
  rw [cells_net] at hl
  obtain ⟨a0, a1, a2, a3, rfl⟩ := list4 hl
  have g0 := hf 0 f0 rfl
  have g1 := hf 1 f1 rfl
  have g2 := hf 2 f2 rfl
  have g3 := hf 3 f3 rfl
  have hlt : xs.length = 4 := hlen
  rw [t0, o0, cells_32, List.getElem?_eq_getElem (by omega)] at g0
  rw [t1, o1, cells_i, List.getElem?_eq_getElem (by omega)] at g1
  rw [t2, o2, cells_i, List.getElem?_eq_getElem (by omega)] at g2
  rw [t3, o3, cells_i, List.getElem?_eq_getElem (by omega)] at g3
  obtain ⟨s0, q0, _, w0⟩ := DataW.trod_int Tryz.underlying27 g0
  obtain ⟨s1, q1, _, w1⟩ := DataW.trod_int Tryz.underlying3 g1
  obtain ⟨s2, q2, _, w2⟩ := DataW.trod_int Tryz.underlying3 g2
  obtain ⟨s3, q3, _, w3⟩ := DataW.trod_int Tryz.underlying3 g3
  simp at q0 q1 q2 q3
  obtain ⟨k0, rfl, h0⟩ := u32_wf w0
  subst q0 q1 q2 q3
  exact ⟨⟨k0, s1, s2, s3⟩, rfl, ⟨h0, i64_ok w1, i64_ok w2, i64_ok w3⟩⟩
theorem cond_read (h : DataW.trod enc Tryz.prog w base spare held n 69 cs = some x) :
    ∃ c : CD, cs = [.int .i64 c.arg, .int .i64 c.op, .int .u64 c.v, .int .u64 c.m, .string c.glob, .int .u32 c.net.ip, .int .i64 c.net.bits, .int .i64 c.net.lo, .int .i64 c.net.hi] ∧ CdOk c := by
  obtain ⟨f0, f1, f2, f3, f4, f5, hu, ⟨t0, t1, t2, t3, t4, t5⟩, o0, o1, o2, o3, o4, o5⟩ := cond_fields
  obtain ⟨xs, m, _, _, hl, hlen, hf⟩ := DataW.trod_struct hu h
  rw [cells_cond] at hl
  obtain ⟨a0, a1, a2, a3, a4, a5, a6, a7, a8, rfl⟩ := list9 hl
  have g0 := hf 0 f0 rfl
  have g1 := hf 1 f1 rfl
  have g2 := hf 2 f2 rfl
  have g3 := hf 3 f3 rfl
  have g4 := hf 4 f4 rfl
  have g5 := hf 5 f5 rfl
  have hlt : xs.length = 6 := hlen
  rw [t0, o0, cells_i, List.getElem?_eq_getElem (by omega)] at g0
  rw [t1, o1, cells_i, List.getElem?_eq_getElem (by omega)] at g1
  rw [t2, o2, cells_64, List.getElem?_eq_getElem (by omega)] at g2
  rw [t3, o3, cells_64, List.getElem?_eq_getElem (by omega)] at g3
  rw [t4, o4, cells_s, List.getElem?_eq_getElem (by omega)] at g4
  rw [t5, o5, cells_net, List.getElem?_eq_getElem (by omega)] at g5
  obtain ⟨nt, q5, hnt⟩ := net_read g5
  obtain ⟨s0, q0, _, w0⟩ := DataW.trod_int Tryz.underlying3 g0
  obtain ⟨s1, q1, _, w1⟩ := DataW.trod_int Tryz.underlying3 g1
  obtain ⟨s2, q2, _, w2⟩ := DataW.trod_int Tryz.underlying28 g2
  obtain ⟨s3, q3, _, w3⟩ := DataW.trod_int Tryz.underlying28 g3
  obtain ⟨s4, q4, _, _⟩ := DataW.trod_string Tryz.underlying9 g4
  simp at q0 q1 q2 q3 q4 q5
  obtain ⟨k2, rfl, h2⟩ := u64_wf w2
  obtain ⟨k3, rfl, h3⟩ := u64_wf w3
  obtain ⟨q5, q6, q7, q8⟩ := q5
  subst q0 q1 q2 q3 q4 q5 q6 q7 q8
  exact ⟨⟨s0, s1, k2, k3, s4, nt⟩, rfl, ⟨i64_ok w0, i64_ok w1, h2, h3, hnt⟩⟩

set_option maxRecDepth 100000 in
theorem conds_read {W : World} (h : DataW.trod enc Tryz.prog W 0 (fun _ => true) true n 63 cs = some x) :
    ∃ (oa : Option Addr) (l : List CD) (cap : Nat), cs = [.slice oa l.length cap] ∧ l.length ≤ cap ∧ cap ≤ maxLen ∧ IsConds oa l W ∧ ∀ c ∈ l, CdOk c := by
  rcases Go.Deep.open_slice Tryz.underlying63 h with ⟨rfl, _⟩ | ⟨a, len, cap, m, fu, D, Pl, rfl, _, hl, hm, hmm, _, hx⟩
  · exact ⟨none, [], 0, rfl, Nat.le_refl _, Nat.zero_le _, IsConds.nil _ _, fun c hc => by simp at hc⟩
  · rw [if_pos rfl] at hmm
    subst hmm
    rw [cells_cond] at hx
    obtain ⟨l, hll, hp⟩ := list_of (n := len) (p := fun i (c : CD) => ∃ cs', W.cells? 0 (a.add (i * 9)) 9 = some cs' ∧ cs' = [.int .i64 c.arg, .int .i64 c.op, .int .u64 c.v, .int .u64 c.m, .string c.glob, .int .u32 c.net.ip, .int .i64 c.net.bits, .int .i64 c.net.lo, .int .i64 c.net.hi] ∧ CdOk c) fun i hi => by
      obtain ⟨cs', h1, h2⟩ := hx i (by omega)
      obtain ⟨c, h3, h4⟩ := cond_read h2
      exact ⟨c, cs', h1, h3, h4⟩
    subst hll
    refine ⟨some a, l, m, rfl, hl, hm, ⟨fun h0 => ?_⟩, fun c hc => ?_⟩
    · obtain ⟨b, off, spot⟩ := a
      obtain ⟨cs0, k1, k2, _⟩ := hp 0 l[0] (List.getElem?_eq_getElem h0)
      have hc0 := (World.cells?_some k1).2.2 0 (by omega)
      rw [k2] at hc0
      have hspot : spot = none := by simpa [Addr.add] using World.cell?_spot hc0
      subst hspot
      refine ⟨b, off, rfl, World.cells?_block (by rw [Nat.zero_mul] at k1; simpa [Addr.add] using k1) (by omega : 0 < 9), fun i c hi => ?_⟩
      obtain ⟨cs', k1, rfl, k3⟩ := hp i c hi
      exact ⟨elem_cells k1 0 (by omega), elem_cells k1 1 (by omega), elem_cells k1 2 (by omega), elem_cells k1 3 (by omega), elem_cells k1 4 (by omega), elem_cells k1 5 (by omega), elem_cells k1 6 (by omega), elem_cells k1 7 (by omega), elem_cells k1 8 (by omega), k3⟩
    · obtain ⟨i, hi, rfl⟩ := List.mem_iff_getElem.1 hc
      obtain ⟨_, _, _, k3⟩ := hp i _ (List.getElem?_eq_getElem hi)
      exact k3
theorem rule_read {W : World} (h : DataW.trod enc Tryz.prog W 0 (fun _ => true) true n 65 cs = some x) :
    ∃ (r : RL) (oa : Option Addr) (cap : Nat), cs = [.int .i64 r.nr, .slice oa r.conds.length cap, .int .i64 r.act.kind, .int .i64 r.act.errno] ∧ r.conds.length ≤ cap ∧ cap ≤ maxLen ∧ IsConds oa r.conds W ∧ RlOk r := by
  obtain ⟨f0, f1, f2, hu, ⟨t0, t1, t2⟩, o0, o1, o2⟩ := rule_fields
  obtain ⟨xs, m, _, _, hl, hlen, hf⟩ := DataW.trod_struct hu h
  rw [cells_rule] at hl
  obtain ⟨a0, a1, a2, a3, rfl⟩ := list4 hl
  have g0 := hf 0 f0 rfl
  have g1 := hf 1 f1 rfl
  have g2 := hf 2 f2 rfl
  have hlt : xs.length = 3 := hlen
  rw [t0, o0, cells_i, List.getElem?_eq_getElem (by omega)] at g0
  rw [t1, o1, cells_conds, List.getElem?_eq_getElem (by omega)] at g1
  rw [t2, o2, cells_action, List.getElem?_eq_getElem (by omega)] at g2
  obtain ⟨s0, q0, _, w0⟩ := DataW.trod_int Tryz.underlying3 g0
  obtain ⟨oa, l, cap, q1, hlc, hcm, hic, hok⟩ := conds_read g1
  obtain ⟨ac, q2, hac⟩ := action_read g2
  simp at q0 q1 q2
  obtain ⟨q2, q3⟩ := q2
  subst q0 q1 q2 q3
  exact ⟨⟨s0, l, ac⟩, oa, cap, rfl, hlc, hcm, hic, ⟨i64_ok w0, hok, hac⟩⟩

set_option maxRecDepth 100000 in
theorem rules_read {W : World} (h : DataW.trod enc Tryz.prog W 0 (fun _ => true) true n 22 cs = some x) :
    ∃ (oa : Option Addr) (l : List RL) (cap : Nat), cs = [.slice oa l.length cap] ∧ l.length ≤ cap ∧ cap ≤ maxLen ∧ IsRules oa l W ∧ ∀ r ∈ l, RlOk r := by
  rcases Go.Deep.open_slice Tryz.underlying22 h with ⟨rfl, _⟩ | ⟨a, len, cap, m, fu, D, Pl, rfl, _, hl, hm, hmm, _, hx⟩
  · exact ⟨none, [], 0, rfl, Nat.le_refl _, Nat.zero_le _, IsRules.nil _ _, fun c hc => by simp at hc⟩
  · rw [if_pos rfl] at hmm
    subst hmm
    rw [cells_rule] at hx
    obtain ⟨l, hll, hp⟩ := list_of (n := len) (p := fun i (r : RL) => ∃ cs', W.cells? 0 (a.add (i * 4)) 4 = some cs' ∧ ∃ (oa : Option Addr) (cap : Nat), cs' = [.int .i64 r.nr, .slice oa r.conds.length cap, .int .i64 r.act.kind, .int .i64 r.act.errno] ∧ r.conds.length ≤ cap ∧ cap ≤ maxLen ∧ IsConds oa r.conds W ∧ RlOk r) fun i hi => by
      obtain ⟨cs', h1, h2⟩ := hx i (by omega)
      obtain ⟨r, oa, cap, h3, h4⟩ := rule_read h2
      exact ⟨r, cs', h1, oa, cap, h3, h4⟩
    subst hll
    refine ⟨some a, l, m, rfl, hl, hm, ⟨fun h0 => ?_⟩, fun c hc => ?_⟩
    · obtain ⟨b, off, spot⟩ := a
      obtain ⟨cs0, k1, _, _, k2, _⟩ := hp 0 l[0] (List.getElem?_eq_getElem h0)
      have hc0 := (World.cells?_some k1).2.2 0 (by omega)
      rw [k2] at hc0
      have hspot : spot = none := by simpa [Addr.add] using World.cell?_spot hc0
      subst hspot
      refine ⟨b, off, rfl, World.cells?_block (by rw [Nat.zero_mul] at k1; simpa [Addr.add] using k1) (by omega : 0 < 4), fun i c hi => ?_⟩
      obtain ⟨cs', k1, oa, cc, rfl, k3, k4, k5, k6⟩ := hp i c hi
      exact ⟨oa, cc, elem_cells k1 0 (by omega), elem_cells k1 1 (by omega), elem_cells k1 2 (by omega), elem_cells k1 3 (by omega), k5, k3, k4, k6⟩
    · obtain ⟨i, hi, rfl⟩ := List.mem_iff_getElem.1 hc
      obtain ⟨_, _, _, _, _, _, _, _, k6⟩ := hp i _ (List.getElem?_eq_getElem hi)
      exact k6

set_option maxRecDepth 100000 in
/-- A policy that came in, opened. -/
theorem open_pol {W : World} {v : Value} {d : DataW H} {p : List MemPlace} {r : Reach} {b0 : Nat} (hv : Value.okWide Tryz.prog W r b0 26 v) (h : DataW.Trod enc Tryz.prog W 0 (fun _ => true) true 26 v d p) :
    ∃ (q : POL) (oa : Option Addr) (cap : Nat), v = polV q oa cap ∧ IsPol oa cap q W := by
  obtain ⟨f0, f1, hu, ⟨t0, t1⟩, o0, o1⟩ := pol_fields
  obtain ⟨cs, rfl, hsz⟩ := okWide_struct hu hv
  obtain ⟨a0, a1, a2, rfl⟩ := array3 (hsz.trans cells_pol)
  obtain ⟨fuel, hf⟩ := h
  obtain ⟨xs, m, _, _, hl, hlen, hf⟩ := DataW.trod_struct hu hf
  have g0 := hf 0 f0 rfl
  have g1 := hf 1 f1 rfl
  have hlt : xs.length = 2 := hlen
  rw [t0, o0, cells_rules, List.getElem?_eq_getElem (by omega)] at g0
  rw [t1, o1, cells_action, List.getElem?_eq_getElem (by omega)] at g1
  obtain ⟨oa, l, cap, q0, hlc, hcm, hir, hok⟩ := rules_read g0
  obtain ⟨ac, q1, hac⟩ := action_read g1
  simp [Value.cells] at q0 q1
  obtain ⟨q1, q2⟩ := q1
  subst q0 q1 q2
  exact ⟨⟨l, ac⟩, oa, cap, rfl, ⟨hir, hlc, hcm, ⟨hok, hac⟩⟩⟩

set_option maxRecDepth 100000 in
/-- A call that came in, opened. -/
theorem open_call {W : World} {v : Value} {d : DataW H} {p : List MemPlace} {r : Reach} {b0 : Nat} (hv : Value.okWide Tryz.prog W r b0 31 v) (h : DataW.Trod enc Tryz.prog W base spare held 31 v d p) :
    ∃ c : KL, v = klV c ∧ KlOk c := by
  obtain ⟨f0, f1, f2, hu, ⟨t0, t1, t2⟩, o0, o1, o2⟩ := call_fields
  obtain ⟨cs, rfl, hsz⟩ := okWide_struct hu hv
  obtain ⟨a0, a1, a2, a3, a4, a5, rfl⟩ := array6 (hsz.trans cells_call)
  obtain ⟨fuel, hf⟩ := h
  obtain ⟨xs, m, _, _, hl, hlen, hf⟩ := DataW.trod_struct hu hf
  have g0 := hf 0 f0 rfl
  have g1 := hf 1 f1 rfl
  have g2 := hf 2 f2 rfl
  have hlt : xs.length = 3 := hlen
  rw [t0, o0, cells_32, List.getElem?_eq_getElem (by omega)] at g0
  rw [t1, o1, cells_32, List.getElem?_eq_getElem (by omega)] at g1
  rw [t2, o2, cells_arr4, List.getElem?_eq_getElem (by omega)] at g2
  obtain ⟨s0, q0, _, w0⟩ := DataW.trod_int Tryz.underlying27 g0
  obtain ⟨s1, q1, _, w1⟩ := DataW.trod_int Tryz.underlying27 g1
  obtain ⟨ys, m', _, _, _, hyl, hy⟩ := DataW.trod_array Tryz.underlying29 g2
  have y0 := hy 0 (by omega)
  have y1 := hy 1 (by omega)
  have y2 := hy 2 (by omega)
  have y3 := hy 3 (by omega)
  rw [cells_64, List.getElem?_eq_getElem (by omega)] at y0 y1 y2 y3
  obtain ⟨s2, q2, _, w2⟩ := DataW.trod_int Tryz.underlying28 y0
  obtain ⟨s3, q3, _, w3⟩ := DataW.trod_int Tryz.underlying28 y1
  obtain ⟨s4, q4, _, w4⟩ := DataW.trod_int Tryz.underlying28 y2
  obtain ⟨s5, q5, _, w5⟩ := DataW.trod_int Tryz.underlying28 y3
  simp [Value.cells] at q0 q1 q2 q3 q4 q5
  obtain ⟨k0, rfl, h0⟩ := u32_wf w0
  obtain ⟨k1, rfl, h1⟩ := u32_wf w1
  obtain ⟨k2, rfl, h2⟩ := u64_wf w2
  obtain ⟨k3, rfl, h3⟩ := u64_wf w3
  obtain ⟨k4, rfl, h4⟩ := u64_wf w4
  obtain ⟨k5, rfl, h5⟩ := u64_wf w5
  subst q0 q1 q2 q3 q4 q5
  exact ⟨⟨k0, k1, k2, k3, k4, k5⟩, rfl, ⟨h0, h1, h2, h3, h4, h5⟩⟩

theorem value_read (h : DataW.trod enc Tryz.prog w base spare held n 33 cs = some x) : ∃ y : VL, cs = [.string y.path, .int .u32 y.ip, .int .i64 y.port] ∧ y.path.size ≤ maxLen ∧ y.ip < 4294967296 ∧ I64 y.port := by
  obtain ⟨f0, f1, f2, hu, ⟨t0, t1, t2⟩, o0, o1, o2⟩ := value_fields
  obtain ⟨xs, m, _, _, hl, hlen, hf⟩ := DataW.trod_struct hu h
  rw [cells_value] at hl
  obtain ⟨a0, a1, a2, rfl⟩ := list3 hl
  have g0 := hf 0 f0 rfl
  have g1 := hf 1 f1 rfl
  have g2 := hf 2 f2 rfl
  have hlt : xs.length = 3 := hlen
  rw [t0, o0, cells_s, List.getElem?_eq_getElem (by omega)] at g0
  rw [t1, o1, cells_32, List.getElem?_eq_getElem (by omega)] at g1
  rw [t2, o2, cells_i, List.getElem?_eq_getElem (by omega)] at g2
  obtain ⟨s0, q0, _, w0⟩ := DataW.trod_string Tryz.underlying9 g0
  obtain ⟨s1, q1, _, w1⟩ := DataW.trod_int Tryz.underlying27 g1
  obtain ⟨s2, q2, _, w2⟩ := DataW.trod_int Tryz.underlying3 g2
  simp at q0 q1 q2
  obtain ⟨k1, rfl, h1⟩ := u32_wf w1
  subst q0 q1 q2
  exact ⟨⟨s0, k1, s2⟩, rfl, w0, h1, i64_ok w2⟩
theorem okWide_arr {P : Program} {w : World} {r : Reach} {base : Nat} {t : TypeId} {v : Value} {n : Nat} {e : TypeId} (ht : P.underlying t = some (.array n e)) (h : Value.okWide P w r base t v) : ∃ cs, v = .agg cs ∧ cs.size = P.cellsOf t := by
  simp only [Value.okWide, ht] at h
  obtain ⟨cs, h1, h2, _⟩ := h
  exact ⟨cs, h1, h2⟩
/-- What is known of values that come in. -/
def VsIn (v : VS) : Prop := ∀ i, i ≤ 3 → (v.at i).path.size ≤ maxLen ∧ (v.at i).ip < 4294967296 ∧ I64 (v.at i).port
set_option maxRecDepth 100000 in
/-- Values that came in, opened. -/
theorem open_vals {W : World} {v : Value} {d : DataW H} {p : List MemPlace} {r : Reach} {b0 : Nat} (hv : Value.okWide Tryz.prog W r b0 35 v) (h : DataW.Trod enc Tryz.prog W base spare held 35 v d p) :
    ∃ c : VS, v = vsV c ∧ VsIn c := by
  obtain ⟨cs, rfl, hsz⟩ := okWide_arr Tryz.underlying35 hv
  obtain ⟨a0, a1, a2, a3, a4, a5, a6, a7, a8, a9, a10, a11, rfl⟩ := array12 (hsz.trans cells_vals)
  obtain ⟨fuel, hf⟩ := h
  obtain ⟨ys, m', _, _, _, hyl, hy⟩ := DataW.trod_array Tryz.underlying35 hf
  have y0 := hy 0 (by omega)
  have y1 := hy 1 (by omega)
  have y2 := hy 2 (by omega)
  have y3 := hy 3 (by omega)
  rw [cells_value, List.getElem?_eq_getElem (by omega)] at y0 y1 y2 y3
  obtain ⟨v0, q0, h0⟩ := value_read y0
  obtain ⟨v1, q1, h1⟩ := value_read y1
  obtain ⟨v2, q2, h2⟩ := value_read y2
  obtain ⟨v3, q3, h3⟩ := value_read y3
  simp [Value.cells] at q0 q1 q2 q3
  obtain ⟨q0, q4, q5⟩ := q0
  obtain ⟨q1, q6, q7⟩ := q1
  obtain ⟨q2, q8, q9⟩ := q2
  obtain ⟨q3, q10, q11⟩ := q3
  subst q0 q1 q2 q3 q4 q5 q6 q7 q8 q9 q10 q11
  refine ⟨⟨v0, v1, v2, v3⟩, rfl, fun i hi => ?_⟩
  rcases (by omega : i = 0 ∨ i = 1 ∨ i = 2 ∨ i = 3) with rfl | rfl | rfl | rfl
  · exact h0
  · exact h1
  · exact h2
  · exact h3
end Go.Proofs.YtkogafponpjdnaaGreatDoor

/- What the tables that the program's text lays give: the library's variables; the last wrap, the world's shape kept. -/
namespace Go.Proofs.YtkogafponpjdnaaGreatDoor
open Go.ChangeShapes Go.WideShapes Go.ChangeAt Go.WideMaps Go.WideElems Go.RowKit

set_option maxRecDepth 100000 in
/-- A wrap that hands the contract both the row's condition and the world's shape. -/
theorem lift_shaped {H : Type} {enc : TypeId × Value → H} {os : Os} {f : FuncId} {fn : Func} {s : ChangeSpec} {X : World → Prop} (hX : ∀ w w' : World, w.heap = w'.heap → X w → X w') (started : os.Started) (noInit : Tryz.checked.prog.inits.idxOf? f = none) (hfn : Tryz.checked.prog.funcs[f]? = some fn)
    (witness : ∃ (w : World) (tape : Tape) (i : Input), w.os = os ∧ (w.forCall tape i).Shaped Tryz.checked.prog ∧ i.vars = [] ∧ Input.okWide Tryz.checked.prog (w.forCall tape i) .any w.heap.size f i ∧
      ((s.pre enc Tryz.checked.prog fn [] false (w.forCall tape i).memory i.args ∧ X (w.forCall tape i).memory) ∧ sizedMet enc Tryz.checked.prog fn (OpenSpec.ofChange s) false (w.forCall tape i).memory i.args) ∧ Assume.holds {} Tryz.checked.prog (lone (Frame.enter Tryz.checked.prog f i.args .normal) [] (w.forCall tape i)))
    (contract : ∀ (W : World) (base : Nat) (args : Array Value) (ds gs : List (DataW H)) (before : List MemPlace),
      (∀ (j : Nat) t v, fn.params[j]? = some t → args[j]? = some v → Value.okWide Tryz.checked.prog W .any base t v) → DataW.Whole enc Tryz.checked.prog fn.params.toList s.vars false W args.toList ds gs before → X W → W.ShapedOpen Tryz.checked.prog →
      Calls Tryz.checked.prog f args W fun e W' => ∃ v, e = .returned v ∧ s.post enc Tryz.checked.prog fn false true false false W args v W') :
    ReturnsInHanded {} Tryz.checked os f .any (fun w args => (s.pre enc Tryz.checked.prog fn [] false w args ∧ X w) ∧ sizedMet enc Tryz.checked.prog fn (OpenSpec.ofChange s) false w args) (s.post enc Tryz.checked.prog fn false true false false) := by
  refine returnsInHanded_of_calls own started noInit witness fun w tape i _ hsh _ hok hpre _ => ?_
  obtain ⟨_, _, _, fn', hfn', _, _, _, _, hval⟩ := hok
  obtain rfl : fn' = fn := Option.some.inj (hfn'.symm.trans hfn)
  obtain ⟨⟨⟨ds, gs, before, hw, _⟩, hx⟩, _⟩ := hpre
  refine (contract (w.forCall tape i) w.heap.size i.args ds gs before hval (DataW.Whole.of_heap (w' := w.forCall tape i) (by rfl) hw) (hX _ _ (by rfl) hx) hsh).mono fun e W' ⟨v, he, hp⟩ => ?_
  subst he
  exact ChangeSpec.post_blind hp

theorem err_of {W : World} {nm : String} {g : Nat} {d : DataW Unit} {rest : List (String × DataW Unit)} (hg : Tryz.prog.globalNamed nm = some g) (ht : (Tryz.prog.globals[g]?).map (·.type) = some 42) (h : laidMet Tryz.prog ((nm, .iface "*errors.errorString" d) :: rest) W) :
    ∃ ev, W.cell? ⟨g, 0, none⟩ = some ev ∧ (ev = .nilIface ∨ ∃ te pe, ev = .iface te pe) := by
  obtain ⟨ps, ⟨g', t', cs, fuel, p, q, hg', ht', hvar, hd, _, _⟩, _⟩ := h
  obtain rfl := Option.some.inj (hg.symm.trans hg')
  obtain rfl := Option.some.inj (ht.symm.trans ht')
  obtain ⟨l⟩ := cs
  obtain ⟨f1, u, v, hl, _, _⟩ := iface_of_trod Tryz.underlying42 hd
  have hc := World.var?_cell hg' hvar 0
  simp only at hl
  subst hl
  exact ⟨.iface u v, hc, .inr ⟨u, v, rfl⟩⟩

theorem sign_of {W : World} {rest : List (String × DataW Unit)} (h : laidMet Tryz.prog (("doorward/policy.signs", Rows.laid_doorward_policy_signs) :: rest) W) : ∀ i, i < 9 → W.cell? ⟨0, i, none⟩ = some (.string (bs (signW.getD i []))) := by
  obtain ⟨ps, ⟨g', t', cs, fuel, p, q, hg', ht', hvar, hd, _, _⟩, _⟩ := h
  obtain rfl := Option.some.inj ((show Tryz.prog.globalNamed "doorward/policy.signs" = some 0 by kernel_rfl).symm.trans hg')
  obtain rfl := Option.some.inj ((show (Tryz.prog.globals[0]?).map (·.type) = some 81 by kernel_rfl).symm.trans ht')
  obtain ⟨xs, m, _, hx, _, hl, hy⟩ := DataW.trod_array Tryz.underlying81 hd
  have hm : xs.map (·.1) = signW.map fun x => DataW.lit (.string x) := (DataW.agg.inj (congrArg Prod.fst hx)).symm
  intro i hi
  have hi' := hy i hi
  rw [cells_s, List.getElem?_eq_getElem (by omega)] at hi'
  obtain ⟨s, hs, hxs, _⟩ := DataW.trod_string Tryz.underlying9 hi'
  have h1 : (xs.map (·.1))[i]? = some (.lit (.string s.data.toList)) := by rw [List.getElem?_map, List.getElem?_eq_getElem (by omega), hxs]; rfl
  rw [hm, List.getElem?_map] at h1
  obtain ⟨y, hy1, hy2⟩ := Option.map_eq_some_iff.1 h1
  have hys : y = s.data.toList := by injection hy2 with h2; injection h2
  rw [World.var?_cell hg' hvar i, List.getD_eq_getElem?_getD, hy1, Option.getD_some, hys, bs_of]
  have h2 := congrArg (·[0]?) hs
  simpa [List.getElem?_take, List.getElem?_drop] using h2

/-- The library's variables, out of the row's condition and the world's shape. -/
theorem ev_of {W : World} {laid : List (String × DataW Unit)} (h : laidMetH Tryz.prog laid W) (hp : (laid.filter fun x => x.2.handleName?.isSome) = [])
    (hl : ∃ rest, laid = ("math/bits.deBruijn32tab", Rows.laid_math_bits_deBruijn32tab) :: ("math/bits.deBruijn64tab", Rows.laid_math_bits_deBruijn64tab) :: ("internal/strconv.uint64pow10", Rows.laid_internal_strconv_uint64pow10) :: ("unicode/utf8.acceptRanges", Rows.laid_unicode_utf8_acceptRanges) :: ("strconv.ErrRange", Rows.laid_strconv_ErrRange) :: ("strconv.ErrSyntax", Rows.laid_strconv_ErrSyntax) :: ("doorward/policy.signs", Rows.laid_doorward_policy_signs) :: rest)
    (hs : W.ShapedOpen Tryz.prog) : EV W := by
  have h0 : laidMet Tryz.prog laid W := by
    unfold laidMetH at h
    rw [hp] at h
    exact h
  obtain ⟨rest, rfl⟩ := hl
  have h2 := laidMet.tail (laidMet.tail h0)
  have h4 := laidMet.tail (laidMet.tail h2)
  have h5 := laidMet.tail h4
  have h6 := laidMet.tail h5
  refine ⟨?_, sign_of h6, ?_, err_of (nm := "strconv.ErrSyntax") (g := 5) (by kernel_rfl) (by kernel_rfl) h5, err_of (nm := "strconv.ErrRange") (g := 6) (by kernel_rfl) (by kernel_rfl) h4⟩
  · exact Lib.tabIs_of_head (zs := Lib.pow10Tab) (g := (Tryz.prog.globalNamed "internal/strconv.uint64pow10").get!) (t := 196) (e := 28) (n := 20) (by kernel_rfl) (by kernel_rfl) (by kernel_rfl) (by kernel_rfl) (by kernel_rfl) (by kernel_rfl) h2
  · exact cell_of_shapedOpen_int (t := 3) (zero := #[.int .i64 0]) hs (of_decide_eq_true (by kernel_rfl)) (by kernel_rfl) rfl (by kernel_rfl) (by kernel_rfl) Tryz.underlying3
end Go.Proofs.YtkogafponpjdnaaGreatDoor

/- The document's digits of a number. -/
namespace Go.Proofs.YtkogafponpjdnaaGreatDoor
open Go.RowKit

theorem dec_small {k : Nat} (h : k < 10) : Lib.decDigits k = [UInt8.ofNat (48 + k)] := by rw [Lib.decDigits, dif_pos h]
theorem dec_big {k : Nat} (h : ¬ k < 10) : Lib.decDigits k = Lib.decDigits (k / 10) ++ [UInt8.ofNat (48 + k % 10)] := by rw [Lib.decDigits, dif_neg h]

/-- 'string([]byte{c})'. -/
theorem conv_one (W : World) (c : Nat) (hc : c < 256) (g : Nat) (hg : W.cell? ⟨g, 0, none⟩ = some (.int .u8 c)) : (convert 80 9 (.slice (some ⟨g, 0, none⟩) 1 1)).run Tryz.prog W = .ok (.string ⟨#[UInt8.ofNat c]⟩) W :=
  run_convert_bytes_back (P := Tryz.prog) W 80 9 5 ⟨g, 0, none⟩ 1 [UInt8.ofNat c] Tryz.underlying80 Tryz.underlying5 Tryz.underlying9 fun j hj => by
    obtain rfl : j = 0 := by simp at hj; omega
    rw [show (⟨g, 0, none⟩ : Addr).add 0 = ⟨g, 0, none⟩ by simp [Addr.add], hg]
    simp [UInt8.toNat_ofNat', Nat.mod_eq_of_lt hc]

theorem digits_any (n : Nat) (hn : n < 18446744073709551616) (w : World) : Calls Tryz.prog 50 #[.int .u64 n] w fun e w' => e = .returned (.string ⟨(Lib.decDigits n).toArray⟩) ∧ Below w.heap.size w w' := by
  have hlen : Lib.nDigits n ≤ 20 := Lib.nDigits_le20 n hn
  have HN := hide hn
  clear hn
  go_enter Tryz.func50, Tryz.ntmps50
  go_wp2
  go_loopw [0, 3] (fun a s w' => ∃ (x : Int) (t : ByteArray), 0 ≤ x ∧ a = .int .u64 x ∧ s = .string t ∧ t.size ≤ 20 ∧ Hid (x < 18446744073709551616 ∧ Lib.decDigits n = Lib.decDigits x.toNat ++ t.data.toList) ∧ Hid (Below w.heap.size w w')) (fun a _ _ => (intOf a).toNat)
  case atStart => exact ⟨n, ⟨#[]⟩, by omega, rfl, rfl, by decide, hide ⟨by have := HN.out; omega, by simp⟩, hide (Below.refl _ _)⟩
  case round =>
    obtain ⟨x, t, hx0, rfl, rfl, ht, HD, HB⟩ := hrel
    have hr0 : 0 ≤ x % 10 := by omega
    have hr1 : x % 10 < 10 := by omega
    obtain ⟨c, hc⟩ : ∃ c : Nat, (c : Int) = 48 + x % 10 := ⟨(48 + x % 10).toNat, by omega⟩
    have hc1 : c < 256 := by omega
    have cv : (convert 80 9 (.slice (some ⟨wr.heap.size, 0, none⟩) 1 1)).run Tryz.prog (wr.alloc (.cells #[.int .u8 (48 + x % 10)] 5)) = .ok (.string ⟨#[UInt8.ofNat c]⟩) (wr.alloc (.cells #[.int .u8 (48 + x % 10)] 5)) := by
      refine conv_one _ c hc1 _ ?_
      rw [hc]
      exact World.cell?_alloc_at _ _ _ _ rfl
    obtain ⟨q, hq⟩ : ∃ q : Int, q = x / 10 := ⟨_, rfl⟩
    have hw : IntKind.u64.wrap (x.tdiv 10) = q := by
      have h1 := HD.out.1
      rw [Int.tdiv_eq_ediv_of_nonneg hx0, IntKind.wrap_u64, hq]
      omega
    have hq0 : 0 ≤ q := by omega
    by_cases hs : x < 10
    · have bz : (q == 0) = true := by rw [beq_iff_eq]; omega
      have HF := hide (show Lib.decDigits n = [UInt8.ofNat c] ++ t.data.toList by
        rw [HD.out.2, dec_small (by omega), show 48 + x.toNat = c by omega])
      have HC := hide hc
      clear hc hs hq
      go_wp2
      go_ret
      refine ⟨?_, HB.out.alloc HB.out.size _⟩
      rw [HF.out]
      show Ending.returned (Value.string (⟨#[UInt8.ofNat c]⟩ ++ t)) = _
      congr 2
    · have bz : (q == 0) = false := by rw [beq_eq_false_iff_ne]; omega
      have HF := hide (show q < 18446744073709551616 ∧ Lib.decDigits n = Lib.decDigits q.toNat ++ ([UInt8.ofNat c] ++ t.data.toList) by
        have h1 := HD.out.1
        refine ⟨by omega, ?_⟩
        rw [HD.out.2, dec_big (by omega), show 48 + x.toNat % 10 = c by omega, show q.toNat = x.toNat / 10 by omega, List.append_assoc])
      have HC := hide hc
      have HM := hide (show q.toNat < x.toNat by omega)
      clear hc hq
      go_wp2
      go_round
      case rel =>
        refine ⟨q, _, hq0, rfl, rfl, ?_, hide ⟨HF.out.1, ?_⟩, hide (HB.out.alloc HB.out.size _)⟩
        · have h1 := congrArg List.length HF.out.2
          rw [Lib.decDigits_length, List.length_append, List.length_append] at h1
          rw [ByteArray.size_append, Lib.size_eq t]
          have h3 : (ByteArray.mk #[UInt8.ofNat c]).size = 1 := rfl
          have h4 : [UInt8.ofNat c].length = 1 := rfl
          omega
        · rw [HF.out.2]
          congr 1
      case measure =>
        have := HM.out
        simp [intOf]
        omega
end Go.Proofs.YtkogafponpjdnaaGreatDoor

/- The document's text of a net. -/
namespace Go.Proofs.YtkogafponpjdnaaGreatDoor
open Go.RowKit Go.Sort

theorem u64_and255 (x : Nat) (hx : x < 4294967296) : bits .and .u64 (x : Int) 255 = ((x % 256 : Nat) : Int) := by
  rw [show (255 : Int) = ((255 : Nat) : Int) from rfl, u64_and_nat x 255 (by omega) (by decide)]
  exact congrArg _ (Nat.and_two_pow_sub_one_eq_mod x 8)

/-- What is kept of the world: the net in its block. -/
def BX (w : World) (ip : Nat) (b lo hi : Int) (V : World) : Prop := Below w.heap.size w V ∧ V.heap[w.heap.size]? = some (.cells #[.int .u32 ip, .int .i64 b, .int .i64 lo, .int .i64 hi] 67 (0, 0))
theorem BX.start (w : World) (ip : Nat) (b lo hi : Int) : BX w ip b lo hi (w.alloc (.cells #[.int .u32 ip, .int .i64 b, .int .i64 lo, .int .i64 hi] 67)) :=
  ⟨(Below.refl _ _).alloc (Nat.le_refl _) _, heap_alloc_new w _⟩
theorem BX.on {w : World} {ip : Nat} {b lo hi : Int} {V Y : World} (h : BX w ip b lo hi V) (hb : Below V.heap.size V Y) : BX w ip b lo hi Y :=
  ⟨h.1.trans (hb.mono h.1.size), (hb.block _ (Array.getElem?_eq_some_iff.1 h.2).1).trans h.2⟩
theorem BX.cells {w : World} {ip : Nat} {b lo hi : Int} {V : World} (h : BX w ip b lo hi V) : V.cell? ⟨w.heap.size, 0, none⟩ = some (.int .u32 ip) ∧ V.cell? ⟨w.heap.size, 1, none⟩ = some (.int .i64 b) ∧ V.cell? ⟨w.heap.size, 2, none⟩ = some (.int .i64 lo) ∧ V.cell? ⟨w.heap.size, 3, none⟩ = some (.int .i64 hi) :=
  ⟨cell_of_row _ _ 0 _ _ _ h.2, cell_of_row _ _ 1 _ _ _ h.2, cell_of_row _ _ 2 _ _ _ h.2, cell_of_row _ _ 3 _ _ _ h.2⟩

/-- The text of the first k numbers of the address. -/
def preK (ns : List Nat) : Nat → List UInt8
  | 0 => []
  | k + 1 => textK ns k

theorem and_byte (ip k : Nat) (hip : ip < 4294967296) : bits .and .u64 (IntKind.u64.wrap ((ip : Int) / 2 ^ (24 - 8 * k))) 255 = ((ipB ip k : Nat) : Int) := by
  have e : ((ip : Int) / 2 ^ (24 - 8 * k)) = ((ip / 2 ^ (24 - 8 * k) : Nat) : Int) := by simp
  have h1 : ip / 2 ^ (24 - 8 * k) ≤ ip := Nat.div_le_self _ _
  rw [e]
  unfold ipB
  generalize ip / 2 ^ (24 - 8 * k) = y at h1
  rw [IntKind.wrap_u64, show (y : Int) % 18446744073709551616 = y by omega, u64_and255 _ (by omega)]
theorem ipB_num (ip b lo hi k : Nat) (hip : ip < 4294967296) (hk : k < 4) : ipB ip k = (netNums ip b lo hi).getD k 0 := by
  rw [← numsK_end ip b lo hi hip]
  match k, hk with
  | 0, _ => rfl
  | 1, _ => rfl
  | 2, _ => rfl
  | 3, _ => rfl

theorem dots (j : Nat) (hj : j < 3) : signsL.getD j 0 = 46 := by
  match j, hj with
  | 0, _ => rfl
  | 1, _ => rfl
  | 2, _ => rfl
theorem nums_lt {ip b lo hi : Nat} (hf : faultOf ip b lo hi = 0) (hip : ip < 4294967296) (k : Nat) : (netNums ip b lo hi).getD k 0 < 100000 := by
  obtain ⟨h1, h2, _⟩ := fault_ok hf
  exact getD_lt (fun n hn => by
      simp only [netNums, List.mem_cons, List.not_mem_nil, or_false] at hn
      omega) k
theorem preK_len {ip b lo hi : Nat} (hf : faultOf ip b lo hi = 0) (hip : ip < 4294967296) (k : Nat) (hk : k ≤ 4) : (ByteArray.mk (preK (netNums ip b lo hi) k).toArray).size ≤ 6 * k := by
  match k, hk with
  | 0, _ => exact Nat.le_refl _
  | k + 1, hk =>
    have := textK_len (netNums ip b lo hi) rfl (nums_lt hf hip) k (by omega)
    show (textK _ k).toArray.size ≤ _
    rw [List.size_toArray]
    exact this

theorem digits_in (V : World) (n : Nat) (hn : n < 100000) : ∃ d : ByteArray, Hid (d = ⟨(Lib.decDigits n).toArray⟩) ∧ d.size ≤ 5 ∧ ∀ q os, Calls Tryz.prog 50 #[.int .u64 n] (grow (redrawn V q) os) fun e w'' => e = .returned (.string d) ∧ ∃ p : Regrown, w'' = grow (redrawn V p.d) p.os := by
  refine ⟨_, hide rfl, ?_, fun q os => Calls.regrown_of (digits_any n (by omega) _)⟩
  have := nDigits_le5 n hn
  rw [← Lib.decDigits_length] at this
  simpa [ByteArray.size] using this

theorem netText_any (ip : Nat) (hip : ip < 4294967296) (b lo hi : Nat) (hf : faultOf ip b lo hi = 0) (w : World) :
    Calls Tryz.prog 51 #[netV ip b lo hi] w fun e w' => e = .returned (.string ⟨(netText ip b lo hi).toArray⟩) ∧ Below w.heap.size w w' := by
  have HS := hide (BX.start w ip b lo hi)
  have HF := hide hf
  clear hf
  go_enter Tryz.func51, Tryz.ntmps51
  go_wp2
  go_loopw [3, 4] (fun s i w' => ∃ (k : Nat) (t : ByteArray), k ≤ 4 ∧ i = .int .i64 k ∧ s = .string t ∧ t.size ≤ 100 ∧ Hid (t = ⟨(preK (netNums ip b lo hi) k).toArray⟩) ∧ Hid (BX w ip b lo hi w')) (fun _ i _ => 4 - (intOf i).toNat)
  case atStart => exact ⟨0, ⟨#[]⟩, by omega, rfl, rfl, by decide, hide rfl, HS⟩
  case round =>
    obtain ⟨k, t, hk, rfl, rfl, ht, HT, HB⟩ := hrel
    obtain ⟨c0, c1, c2, c3⟩ := HB.out.cells
    by_cases hlt : k < 4
    · have hbits := and_byte ip k hip
      have ld := ipB_lt ip k
      obtain ⟨n, hn⟩ : ∃ n, n = ipB ip k := ⟨_, rfl⟩
      rw [← hn] at hbits ld
      obtain ⟨dk, hdk⟩ : ∃ d : ByteArray, d = ⟨(Lib.decDigits n).toArray⟩ := ⟨_, rfl⟩
      have ldk : dk.size ≤ 5 := by have := nDigits_le5 n (by omega); rw [← Lib.decDigits_length] at this; rw [hdk]; simpa [ByteArray.size] using this
      have HD : ∀ V, Calls Tryz.prog 50 #[.int .u64 n] V fun e w' => e = .returned (.string dk) ∧ Below V.heap.size V w' := fun V => (digits_any n (by omega) V).mono fun e w' h => by rw [← hdk] at h; exact h
      have HN := hide (show n = (netNums ip b lo hi).getD k 0 by rw [hn]; exact ipB_num ip b lo hi k hip hlt)
      have HDK := hide hdk
      clear hn hdk
      by_cases hz : 0 < k
      · go_wp2_with (go_at_call 50; refine (HD _).mono ?_; rintro e V ⟨rfl, hV⟩)
        go_round
        case rel =>
          refine ⟨k + 1, _, by omega, by go_num, rfl, ?_, hide ?_, hide (HB.out.on hV)⟩
          · rw [ByteArray.size_append, ByteArray.size_append]
            have h3 : (ByteArray.mk #[46]).size = 1 := rfl
            have h4 : t.size ≤ 6 * k := by rw [HT.out]; exact preK_len HF.out hip k hk
            omega
          · rw [HT.out, HDK.out, HN.out]
            obtain ⟨j, rfl⟩ : ∃ j, k = j + 1 := ⟨k - 1, by omega⟩
            apply ByteArray.ext
            rw [show preK (netNums ip b lo hi) (j + 1 + 1) = textK (netNums ip b lo hi) (j + 1) from rfl, textK_succ _ rfl j (by omega), show preK (netNums ip b lo hi) (j + 1) = textK (netNums ip b lo hi) j from rfl, show signsL.getD j 0 = 46 from dots j (by omega)]
            simp [ByteArray.data_append]
        case measure => simp [intOf]; omega
      · obtain rfl : k = 0 := by omega
        have hb0 : bits .and .u64 ((ip : Int) / 16777216) 255 = (n : Int) := by
          have h2 : IntKind.u64.wrap ((ip : Int) / 16777216) = (ip : Int) / 16777216 := by rw [IntKind.wrap_u64]; omega
          rw [← h2]
          simpa using hbits
        clear hbits
        go_wp2_with (go_at_call 50; refine (HD _).mono ?_; rintro e V ⟨rfl, hV⟩)
        go_round
        case rel =>
          refine ⟨1, _, by omega, by go_num, rfl, ?_, hide ?_, hide (HB.out.on hV)⟩
          · rw [ByteArray.size_append]
            have h4 : t.size ≤ 6 * 0 := by rw [HT.out]; exact preK_len HF.out hip 0 hk
            omega
          · rw [HT.out, HDK.out, HN.out]
            apply ByteArray.ext
            rw [show preK (netNums ip b lo hi) 1 = textK (netNums ip b lo hi) 0 from rfl, textK_zero _ rfl]
            simp [ByteArray.data_append, preK]
        case measure => simp [intOf]
    · obtain rfl : k = 4 := by omega
      have h4 : t.size ≤ 6 * 4 := by rw [HT.out]; exact preK_len HF.out hip 4 hk
      obtain ⟨q1, q2, _⟩ := fault_ok HF.out
      have wb : IntKind.u64.wrap (b : Int) = b := by rw [IntKind.wrap_u64]; omega
      have wl : IntKind.u64.wrap (lo : Int) = lo := by rw [IntKind.wrap_u64]; omega
      have wh : IntKind.u64.wrap (hi : Int) = hi := by rw [IntKind.wrap_u64]; omega
      obtain ⟨dB, HDB, lB, cB⟩ := digits_in wr b (by omega)
      obtain ⟨dL, HDL, lL, cL⟩ := digits_in wr lo (by omega)
      obtain ⟨dH, HDH, lH, cH⟩ := digits_in wr hi (by omega)
      have z1 : ¬ 9223372036854775807 < t.size + 1 := by omega
      have z2 : ¬ 9223372036854775807 < t.size + 1 + dB.size := by omega
      have z3 : ¬ 9223372036854775807 < t.size + 1 + dB.size + 1 := by omega
      have z4 : ¬ 9223372036854775807 < t.size + 1 + dB.size + 1 + dL.size := by omega
      have z5 : ¬ 9223372036854775807 < t.size + 1 + dB.size + 1 + dL.size + 1 := by omega
      have z6 : ¬ 9223372036854775807 < t.size + 1 + dB.size + 1 + dL.size + 1 + dH.size := by omega
      have g1 := cell_regrown c1
      have g2 := cell_regrown c2
      have g3 := cell_regrown c3
      clear h4 q1 q2 lB lL lH ht
      go_wp2
      refine wp_region_quiet_below (by kernel_rfl) (by kernel_rfl) ?_
      repeat (go_big_quiet_step (first | (go_at_call_of 50 (Value.int IntKind.u64 (b : Int)); exact cB _ _) | (go_at_call_of 50 (Value.int IntKind.u64 (lo : Int)); exact cL _ _) | (go_at_call_of 50 (Value.int IntKind.u64 (hi : Int)); exact cH _ _)))
      refine wpQuiet_nil ?_
      intro _ hw'
      obtain ⟨⟨dq, osq⟩, hw''⟩ := hw'
      subst hw''
      go_wp2
      go_ret
      refine ⟨?_, (HB.out.on (below_regrown _ _ _)).1⟩
      rw [← textK_all rfl, textK_succ _ rfl 5 (by omega), textK_succ _ rfl 4 (by omega), textK_succ _ rfl 3 (by omega)]
      show Ending.returned (Value.string (t ++ ⟨#[47]⟩ ++ dB ++ ⟨#[58]⟩ ++ dL ++ ⟨#[45]⟩ ++ dH)) = _
      rw [HT.out, HDB.out, HDL.out, HDH.out]
      congr 2
      apply ByteArray.ext
      simp [ByteArray.data_append, preK, signsL, netNums]
end Go.Proofs.YtkogafponpjdnaaGreatDoor

/- The document's reading of a number. -/
namespace Go.Proofs.YtkogafponpjdnaaGreatDoor
open Go.RowKit

def figV (l : List UInt8) : Value := .tuple #[.int .u64 (figN l), .bool (figOk l)]
theorem figV_bad {l : List UInt8} (h : 20 < l.length ∨ l.all isDig = false) : figV l = .tuple #[.int .u64 0, .bool false] := by
  unfold figV figOk figN
  rw [if_pos h, if_pos h]
  rfl

theorem figures_any (s : ByteArray) (hs : s.size < 4294967296) (w : World) : Calls Tryz.prog 61 #[.string s] w fun e w' => e = .returned (figV s.data.toList) ∧ Below w.heap.size w w' := by
  by_cases h20 : 20 < s.size
  · have HV := hide (figV_bad (l := s.data.toList) (Or.inl (by rw [← Lib.size_eq]; exact h20)))
    go_enter Tryz.func61, Tryz.ntmps61
    go_wp2
    go_ret2
    exact ⟨by rw [HV.out]; rfl, Below.refl _ _⟩
  · go_enter Tryz.func61, Tryz.ntmps61
    go_wp2
    go_loopw [4, 5] (fun x i w' => ∃ (k : Nat) (y : Int), k ≤ s.size ∧ i = .int .i64 k ∧ x = .int .u64 y ∧ 0 ≤ y ∧ w' = w ∧ Hid (y = (digVal 0 (s.data.toList.take k) % 18446744073709551616 : Nat)) ∧ Hid ((s.data.toList.take k).all isDig = true)) (fun _ i _ => s.size - (intOf i).toNat)
    case atStart => exact ⟨0, 0, by omega, rfl, rfl, by omega, rfl, hide rfl, hide rfl⟩
    case round =>
      obtain ⟨k, y, hk, rfl, rfl, hy, rfl, HY, HA⟩ := hrel
      by_cases hlt : k < s.size
      · have ek := byteAt_eq s k hlt
        have lk := byteAt_lt s k
        have HB := hide (byte_list s k hlt)
        by_cases hdg : 48 ≤ byteAt s k ∧ byteAt s k ≤ 57
        · have HA2 := hide (show (s.data.toList.take (k + 1)).all isDig = true by rw [HB.out, List.all_append, HA.out]; simp [isDig_byte _ lk, hdg.1, hdg.2])
          have HY2 := hide (show IntKind.u64.wrap (IntKind.u64.wrap (y * 10) + ((byteAt s k : Int) - 48)) = (digVal 0 (s.data.toList.take (k + 1)) % 18446744073709551616 : Nat) by
            rw [HB.out, digVal_snoc, UInt8.toNat_ofNat', Nat.mod_eq_of_lt lk, IntKind.wrap_u64, IntKind.wrap_u64, HY.out]
            omega)
          go_wp2
          go_round
          case rel => exact ⟨k + 1, _, by omega, by go_num, rfl, by rw [HY2.out]; omega, trivial, HY2, HA2⟩
          case measure => simp [intOf]; omega
        · have HV := hide (figV_bad (l := s.data.toList) (Or.inr (all_take _ (k + 1) (by
            rw [HB.out, List.all_append, HA.out]
            simp only [List.all_cons, List.all_nil, isDig_byte _ lk, Bool.and_true, Bool.true_and]
            rw [Bool.and_eq_false_iff]
            simp
            omega))))
          go_wp2
          all_goals
            go_ret2
            exact ⟨by rw [HV.out]; rfl, Below.refl _ _⟩
      · obtain rfl : k = s.size := by omega
        have htk : s.data.toList.take s.size = s.data.toList := List.take_of_length_le (by rw [← Lib.size_eq]; omega)
        rw [htk] at HY HA
        have hng : ¬ (20 < s.data.toList.length ∨ s.data.toList.all isDig = false) := by
          rw [← Lib.size_eq, HA.out]
          rintro (h | h)
          · exact h20 h
          · cases h
        have hfn : figN s.data.toList = digVal 0 s.data.toList % 18446744073709551616 := by unfold figN; rw [if_neg hng]
        obtain ⟨N, hN⟩ : ∃ N, N = figN s.data.toList := ⟨_, rfl⟩
        obtain rfl : y = (N : Int) := by rw [HY.out, ← hfn, hN]
        have HNb := hide (show N < 18446744073709551616 by rw [hN, hfn]; exact Nat.mod_lt _ (by decide))
        have HC := fun V => digits_any N HNb.out V
        obtain ⟨dk, hdk⟩ : ∃ d : ByteArray, d = ⟨(Lib.decDigits N).toArray⟩ := ⟨_, rfl⟩
        rw [← hdk] at HC
        have HV := hide (show figV s.data.toList = .tuple #[.int .u64 N, .bool (dk.toList == s.toList)] by
          unfold figV figOk
          rw [if_neg hng, ← hN, Lib.toList_data, Lib.toList_data, hdk])
        clear hdk hN hfn hng htk hy HY
        go_wp2_with (go_at_call 50; refine (HC _).mono ?_; rintro e V ⟨rfl, hV⟩)
        go_ret2
        exact ⟨by rw [HV.out]; rfl, hV⟩
end Go.Proofs.YtkogafponpjdnaaGreatDoor

/- The document's reading of a net. -/
namespace Go.Proofs.YtkogafponpjdnaaGreatDoor
open Go.RowKit Go.Sort

def netOfV : Option (Nat × Nat × Nat × Nat) → Value
  | none => .tuple #[netV 0 0 0 0, .bool false]
  | some (ip, b, lo, hi) => .tuple #[netV ip b lo hi, .bool true]

/-- What is kept of the world: the result's block, the numbers' block. -/
def FX (w : World) (ns : List Nat) (V : World) : Prop := Below w.heap.size w V ∧ V.heap[w.heap.size]? = some (.cells (netC 0 0 0 0) 67 (0, 0)) ∧ V.heap[w.heap.size + 1]? = some (.cells (padN ns) 159 (0, 0))
theorem FX.start (w : World) : FX w [] ((w.alloc (.cells (netC 0 0 0 0) 67)).alloc (.cells (padN []) 159)) :=
  ⟨((Below.refl _ _).alloc (Nat.le_refl _) _).alloc (by simp) _, heap_alloc2_old _ _ _, heap_alloc2_new _ _ _⟩
theorem FX.on {w V Y : World} {ns : List Nat} (h : FX w ns V) (hb : Below V.heap.size V Y) : FX w ns Y :=
  ⟨h.1.trans (hb.mono h.1.size), (hb.block _ (Array.getElem?_eq_some_iff.1 h.2.1).1).trans h.2.1, (hb.block _ (Array.getElem?_eq_some_iff.1 h.2.2).1).trans h.2.2⟩
theorem FX.set {w V : World} {ns : List Nat} (h : FX w ns V) (k x : Nat) (hk : ns.length = k) (h7 : k < 7) : FX w (ns ++ [x]) (V.setCell ⟨w.heap.size + 1, k, none⟩ (.int .i64 x)) := by
  rw [setCell_eq_setRow _ _ k _ _ _ _ h.2.2, padN_set ns x k hk h7]
  exact ⟨below_setRow h.1 (by omega) _, (setRow_other _ _ _ _ (by omega)).trans h.2.1, setRow_heap _ _ _ _ _ _ h.2.2⟩
theorem FX.cell {w V : World} {ns : List Nat} (h : FX w ns V) (k : Nat) (h7 : k < 7) : V.cell? ⟨w.heap.size + 1, k, none⟩ = some (.int .i64 (ns.getD k 0)) := by
  rw [cell_of_row _ _ k _ _ _ h.2.2, padN_get ns k h7]
theorem FX.fro {w V : World} {ns : List Nat} (h : FX w ns V) (k : Nat) : V.frozen? ⟨w.heap.size + 1, k, none⟩ = false := frozen_of_row _ _ k _ _ h.2.2

def seg (l : List UInt8) (f i : Nat) : List UInt8 := (l.drop f).take (i - f)
theorem seg_nil (l : List UInt8) (i : Nat) : seg l i i = [] := by unfold seg; simp
theorem seg_snoc (s : ByteArray) (f i : Nat) (hf : f ≤ i) (hi : i < s.size) : seg s.data.toList f (i + 1) = seg s.data.toList f i ++ [UInt8.ofNat (byteAt s i)] := by
  unfold seg
  have hil : i < s.data.toList.length := by rw [← Lib.size_eq]; exact hi
  rw [show i + 1 - f = (i - f) + 1 by omega, List.take_add_one, List.getElem?_drop, show f + (i - f) = i by omega, List.getElem?_eq_getElem hil]
  unfold byteAt
  rw [List.getD_eq_getElem?_getD, List.getElem?_eq_getElem hil]
  simp
theorem drop_cons (s : ByteArray) (i : Nat) (hi : i < s.size) : s.data.toList.drop i = UInt8.ofNat (byteAt s i) :: s.data.toList.drop (i + 1) := by
  have hil : i < s.data.toList.length := by rw [← Lib.size_eq]; exact hi
  rw [List.drop_eq_getElem_cons hil]
  unfold byteAt
  rw [List.getD_eq_getElem?_getD, List.getElem?_eq_getElem hil]
  simp
theorem drop_end (s : ByteArray) : s.data.toList.drop s.size = [] := List.drop_eq_nil_of_le (by rw [← Lib.size_eq]; exact Nat.le_refl _)
theorem extract_seg (s : ByteArray) (f i : Nat) : (s.extract f i).data.toList = seg s.data.toList f i := Lib.extract_data s f i

/-- The numbers that stand so far, and what is still to be scanned. -/
def Scan (s : ByteArray) (k f i : Nat) (ns : List Nat) : Prop :=
  (i ≤ s.size ∧ f ≤ i ∧ scanN [] s.data.toList 0 = (scanN (seg s.data.toList f i) (s.data.toList.drop i) k).map fun r => ns ++ r) ∨ (i = s.size + 1 ∧ scanN [] s.data.toList 0 = some ns)
theorem Scan.start (s : ByteArray) : Scan s 0 0 0 [] := Or.inl ⟨Nat.zero_le _, Nat.le_refl _, by rw [seg_nil, List.drop_zero]; simp⟩
theorem Scan.digit {s : ByteArray} {k f i : Nat} {ns : List Nat} (h : Scan s k f i ns) (hi : i < s.size) (hd : 48 ≤ byteAt s i ∧ byteAt s i ≤ 57) : Scan s k f (i + 1) ns := by
  rcases h with ⟨_, h2, h3⟩ | ⟨h1, _⟩
  · refine Or.inl ⟨by omega, by omega, ?_⟩
    rw [h3, drop_cons s i hi, scanN, if_pos, seg_snoc s f i h2 hi]
    rw [isDig_byte _ (byteAt_lt s i)]
    simp [hd.1, hd.2]
  · omega
theorem Scan.bad {s : ByteArray} {k f i : Nat} {ns : List Nat} (h : Scan s k f i ns) (hi : i ≤ s.size) (hd : i < s.size → ¬ (48 ≤ byteAt s i ∧ byteAt s i ≤ 57)) (hb : fig70 (seg s.data.toList f i) = none ∨ 6 < k) : scanN [] s.data.toList 0 = none := by
  rcases h with ⟨_, h2, h3⟩ | ⟨h1, _⟩
  · rw [h3]
    by_cases hlt : i < s.size
    · rw [drop_cons s i hlt, scanN, if_neg (by
        rw [isDig_byte _ (byteAt_lt s i)]
        intro h
        simp at h
        exact hd hlt h)]
      rcases hb with hb | hb
      · rw [hb]; rfl
      · cases hq : fig70 (seg s.data.toList f i) with
        | none => rfl
        | some x => rw [Option.bind_some, if_neg (by omega)]; rfl
    · rw [show i = s.size by omega, drop_end, scanN, ← show i = s.size by omega]
      rcases hb with hb | hb
      · rw [hb]; rfl
      · cases hq : fig70 (seg s.data.toList f i) with
        | none => rfl
        | some x => rw [Option.bind_some, if_neg (by omega)]; rfl
  · omega
theorem Scan.good {s : ByteArray} {k f i x : Nat} {ns : List Nat} (h : Scan s k f i ns) (hi : i ≤ s.size) (hd : i < s.size → ¬ (48 ≤ byteAt s i ∧ byteAt s i ≤ 57)) (hx : fig70 (seg s.data.toList f i) = some x) (hk : k ≤ 6) : Scan s (k + 1) (i + 1) (i + 1) (ns ++ [x]) := by
  rcases h with ⟨_, h2, h3⟩ | ⟨h1, _⟩
  · by_cases hlt : i < s.size
    · refine Or.inl ⟨by omega, Nat.le_refl _, ?_⟩
      rw [h3, drop_cons s i hlt, scanN, if_neg (by
        rw [isDig_byte _ (byteAt_lt s i)]
        intro h
        simp at h
        exact hd hlt h), hx, Option.bind_some, if_pos hk, Option.map_map, seg_nil]
      congr 1
      funext r
      simp
    · refine Or.inr ⟨by omega, ?_⟩
      rw [h3, show s.data.toList.drop i = [] by rw [show i = s.size by omega]; exact drop_end s, scanN, hx, Option.bind_some, if_pos hk]
      rfl
  · omega

theorem fx_on {w wr V : World} {ns : List Nat} {ip e f g : Nat} (h : Hid (FX w ns wr)) (hb : Below (wr.alloc (.cells (netC ip e f g) 67)).heap.size (wr.alloc (.cells (netC ip e f g) 67)) V) :
    Hid (FX w ns V) ∧ V.heap[wr.heap.size]? = some (.cells (netC ip e f g) 67 (0, 0)) :=
  ⟨hide ((h.out.on ((Below.refl _ _).alloc (Nat.le_refl _) _)).on hb), (hb.block _ (by simp)).trans (heap_alloc_new _ _)⟩

set_option maxHeartbeats 2000000 in
theorem netOf_any (s : ByteArray) (hs : s.size ≤ 9000) (w : World) : Calls Tryz.prog 80 #[.string s] w fun e w' => e = .returned (netOfV (parseR s.data.toList)) ∧ Below w.heap.size w w' := by
  go_enter Tryz.func80, Tryz.ntmps80
  go_wp2
  go_loopw [5, 6, 7] (fun K F I w' => ∃ (k f i : Nat) (ns : List Nat), k ≤ 7 ∧ f ≤ i ∧ i ≤ s.size + 1 ∧ K = .int .i64 k ∧ F = .int .i64 f ∧ I = .int .i64 i ∧ ns.length = k ∧ Hid (∀ n ∈ ns, n ≤ 70000) ∧ Hid (Scan s k f i ns) ∧ Hid (FX w ns w')) (fun _ _ I _ => s.size + 1 - (intOf I).toNat)
  case atStart => exact ⟨0, 0, 0, [], by omega, by omega, by omega, rfl, rfl, rfl, rfl, hide (fun _ h => by cases h), hide (Scan.start s), hide (FX.start w)⟩
  case round =>
    obtain ⟨k, f, i, ns, hk, hfi, hi, rfl, rfl, rfl, hlen, HM, HS, HF⟩ := hrel
    by_cases hend : i ≤ s.size
    · by_cases hdg : i < s.size ∧ 48 ≤ byteAt s i ∧ byteAt s i ≤ 57
      · obtain ⟨hlt, hdg⟩ := hdg
        have HS2 := hide (HS.out.digit hlt hdg)
        have ei := byteAt_eq s i hlt
        go_wp2
        go_round
        case rel => exact ⟨k, f, i + 1, ns, hk, by omega, by omega, rfl, rfl, by go_num, hlen, HM, HS2, HF⟩
        case measure => simp [intOf]; omega
      · -- SECOND
        have HND := hide (show i < s.size → ¬ (48 ≤ byteAt s i ∧ byteAt s i ≤ 57) from fun h h2 => hdg ⟨h, h2.1, h2.2⟩)
        by_cases hlt : i < s.size
        · have ei := byteAt_eq s i hlt
          have hnd := HND.out hlt
          clear hdg
          have HC : ∀ V, Calls Tryz.prog 61 #[.string (s.extract f i)] V fun e w' => e = .returned (figV (seg s.data.toList f i)) ∧ Below V.heap.size V w' := fun V => (figures_any (s.extract f i) (by simp; omega) V).mono fun e w' h => by rw [extract_seg] at h; exact h
          have HFV := hide (show figV (seg s.data.toList f i) = .tuple #[.int .u64 (figN (seg s.data.toList f i)), .bool (figOk (seg s.data.toList f i))] from rfl)
          have H70 := hide (show fig70 (seg s.data.toList f i) = if figOk (seg s.data.toList f i) = true ∧ figN (seg s.data.toList f i) ≤ 70000 then some (figN (seg s.data.toList f i)) else none from rfl)
          obtain ⟨N, hN⟩ : ∃ N, N = figN (seg s.data.toList f i) := ⟨_, rfl⟩
          obtain ⟨ok, hok⟩ : ∃ o, o = figOk (seg s.data.toList f i) := ⟨_, rfl⟩
          rw [← hN, ← hok] at HFV H70
          rw [HFV.out] at HC
          clear hN hok HFV
          by_cases hgood : ok = true ∧ N ≤ 70000 ∧ k ≤ 6
          · obtain ⟨rfl, hN7, hk6⟩ := hgood
            have HS2 := hide (HS.out.good hend HND.out (by rw [H70.out, if_pos ⟨rfl, hN7⟩]) hk6)
            have HM2 := hide (show ∀ n ∈ ns ++ [N], n ≤ 70000 from fun n hn => by
              rcases List.mem_append.1 hn with h | h
              · exact HM.out n h
              · rw [List.mem_singleton.1 h]; exact hN7)
            go_wp2_with (go_at_call 61; refine (HC _).mono ?_; rintro e V ⟨rfl, hV⟩; have HV := hide (HF.out.on hV); clear hV; have fc := HV.out.cell k (by omega); have ff := HV.out.fro k)
            all_goals
              go_round
              case rel => exact ⟨k + 1, i + 1, i + 1, ns ++ [N], by omega, by omega, by omega, by go_num, by go_num, by go_num, by rw [List.length_append, hlen]; rfl, HM2, HS2, hide (HV.out.set k N hlen (by omega))⟩
              case measure => simp [intOf] <;> omega
          · have HP := hide (show parseR s.data.toList = none from parse_none_of fun ip b lo hi h => by
              have h1 := scan_parse h
              rw [HS.out.bad hend HND.out (by
                rw [H70.out]
                by_cases h6 : 6 < k
                · exact Or.inr h6
                · refine Or.inl (if_neg fun h => hgood ⟨h.1, h.2, by omega⟩))] at h1
              cases h1)
            cases ok with
            | false =>
              clear hgood
              go_wp2_with (first
                | (go_at_call 61; refine (HC _).mono ?_; rintro e V ⟨rfl, hV⟩; have HV := hide (HF.out.on hV); clear hV; obtain ⟨r1, r2, r3⟩ := res_start HV.out.2.1; obtain ⟨r4, r5, r6⟩ := res_row HV.out.2.1)
                | (refine bodyPost_ret (results_net rfl _ _ w.heap.size 0 0 0 0 (.bool false) rfl rfl (setRow_heap _ _ _ _ _ _ HV.out.2.1)) rfl ⟨?_, ?_⟩; (· rw [HP.out]; rfl); (· exact below_setRow HV.out.1 (Nat.le_refl _) _)))
            | true =>
              by_cases hN7 : N ≤ 70000
              · have h6 : 6 < k := by
                  rcases Nat.lt_or_ge 6 k with h | h
                  · exact h
                  · exact absurd ⟨rfl, hN7, h⟩ hgood
                clear hgood
                go_wp2_with (first
                  | (go_at_call 61; refine (HC _).mono ?_; rintro e V ⟨rfl, hV⟩; have HV := hide (HF.out.on hV); clear hV; obtain ⟨r1, r2, r3⟩ := res_start HV.out.2.1; obtain ⟨r4, r5, r6⟩ := res_row HV.out.2.1)
                  | (refine bodyPost_ret (results_net rfl _ _ w.heap.size 0 0 0 0 (.bool false) rfl rfl (setRow_heap _ _ _ _ _ _ HV.out.2.1)) rfl ⟨?_, ?_⟩; (· rw [HP.out]; rfl); (· exact below_setRow HV.out.1 (Nat.le_refl _) _)))
              · clear hgood
                go_wp2_with (first
                  | (go_at_call 61; refine (HC _).mono ?_; rintro e V ⟨rfl, hV⟩; have HV := hide (HF.out.on hV); clear hV; obtain ⟨r1, r2, r3⟩ := res_start HV.out.2.1; obtain ⟨r4, r5, r6⟩ := res_row HV.out.2.1)
                  | (refine bodyPost_ret (results_net rfl _ _ w.heap.size 0 0 0 0 (.bool false) rfl rfl (setRow_heap _ _ _ _ _ _ HV.out.2.1)) rfl ⟨?_, ?_⟩; (· rw [HP.out]; rfl); (· exact below_setRow HV.out.1 (Nat.le_refl _) _)))
        · obtain rfl : i = s.size := by omega
          clear hdg
          have HC : ∀ V, Calls Tryz.prog 61 #[.string (s.extract f s.size)] V fun e w' => e = .returned (figV (seg s.data.toList f s.size)) ∧ Below V.heap.size V w' := fun V => (figures_any (s.extract f s.size) (by simp; omega) V).mono fun e w' h => by rw [extract_seg] at h; exact h
          have HFV := hide (show figV (seg s.data.toList f s.size) = .tuple #[.int .u64 (figN (seg s.data.toList f s.size)), .bool (figOk (seg s.data.toList f s.size))] from rfl)
          have H70 := hide (show fig70 (seg s.data.toList f s.size) = if figOk (seg s.data.toList f s.size) = true ∧ figN (seg s.data.toList f s.size) ≤ 70000 then some (figN (seg s.data.toList f s.size)) else none from rfl)
          obtain ⟨N, hN⟩ : ∃ N, N = figN (seg s.data.toList f s.size) := ⟨_, rfl⟩
          obtain ⟨ok, hok⟩ : ∃ o, o = figOk (seg s.data.toList f s.size) := ⟨_, rfl⟩
          rw [← hN, ← hok] at HFV H70
          rw [HFV.out] at HC
          clear hN hok HFV
          by_cases hgood : ok = true ∧ N ≤ 70000 ∧ k ≤ 6
          · obtain ⟨rfl, hN7, hk6⟩ := hgood
            have HS2 := hide (HS.out.good hend HND.out (by rw [H70.out, if_pos ⟨rfl, hN7⟩]) hk6)
            have HM2 := hide (show ∀ n ∈ ns ++ [N], n ≤ 70000 from fun n hn => by
              rcases List.mem_append.1 hn with h | h
              · exact HM.out n h
              · rw [List.mem_singleton.1 h]; exact hN7)
            go_wp2_with (go_at_call 61; refine (HC _).mono ?_; rintro e V ⟨rfl, hV⟩; have HV := hide (HF.out.on hV); clear hV; have fc := HV.out.cell k (by omega); have ff := HV.out.fro k)
            all_goals
              go_round
              case rel => exact ⟨k + 1, s.size + 1, s.size + 1, ns ++ [N], by omega, by omega, by omega, by go_num, by go_num, by go_num, by rw [List.length_append, hlen]; rfl, HM2, HS2, hide (HV.out.set k N hlen (by omega))⟩
              case measure => simp [intOf] <;> omega
          · have HP := hide (show parseR s.data.toList = none from parse_none_of fun ip b lo hi h => by
              have h1 := scan_parse h
              rw [HS.out.bad hend HND.out (by
                rw [H70.out]
                by_cases h6 : 6 < k
                · exact Or.inr h6
                · refine Or.inl (if_neg fun h => hgood ⟨h.1, h.2, by omega⟩))] at h1
              cases h1)
            cases ok with
            | false =>
              clear hgood
              go_wp2_with (first
                | (go_at_call 61; refine (HC _).mono ?_; rintro e V ⟨rfl, hV⟩; have HV := hide (HF.out.on hV); clear hV; obtain ⟨r1, r2, r3⟩ := res_start HV.out.2.1; obtain ⟨r4, r5, r6⟩ := res_row HV.out.2.1)
                | (refine bodyPost_ret (results_net rfl _ _ w.heap.size 0 0 0 0 (.bool false) rfl rfl (setRow_heap _ _ _ _ _ _ HV.out.2.1)) rfl ⟨?_, ?_⟩; (· rw [HP.out]; rfl); (· exact below_setRow HV.out.1 (Nat.le_refl _) _)))
            | true =>
              by_cases hN7 : N ≤ 70000
              · have h6 : 6 < k := by
                  rcases Nat.lt_or_ge 6 k with h | h
                  · exact h
                  · exact absurd ⟨rfl, hN7, h⟩ hgood
                clear hgood
                go_wp2_with (first
                  | (go_at_call 61; refine (HC _).mono ?_; rintro e V ⟨rfl, hV⟩; have HV := hide (HF.out.on hV); clear hV; obtain ⟨r1, r2, r3⟩ := res_start HV.out.2.1; obtain ⟨r4, r5, r6⟩ := res_row HV.out.2.1)
                  | (refine bodyPost_ret (results_net rfl _ _ w.heap.size 0 0 0 0 (.bool false) rfl rfl (setRow_heap _ _ _ _ _ _ HV.out.2.1)) rfl ⟨?_, ?_⟩; (· rw [HP.out]; rfl); (· exact below_setRow HV.out.1 (Nat.le_refl _) _)))
              · clear hgood
                go_wp2_with (first
                  | (go_at_call 61; refine (HC _).mono ?_; rintro e V ⟨rfl, hV⟩; have HV := hide (HF.out.on hV); clear hV; obtain ⟨r1, r2, r3⟩ := res_start HV.out.2.1; obtain ⟨r4, r5, r6⟩ := res_row HV.out.2.1)
                  | (refine bodyPost_ret (results_net rfl _ _ w.heap.size 0 0 0 0 (.bool false) rfl rfl (setRow_heap _ _ _ _ _ _ HV.out.2.1)) rfl ⟨?_, ?_⟩; (· rw [HP.out]; rfl); (· exact below_setRow HV.out.1 (Nat.le_refl _) _)))
    · -- END
      obtain rfl : i = s.size + 1 := by omega
      have hsc : scanN [] s.data.toList 0 = some ns := by
        rcases HS.out with ⟨h, _, _⟩ | ⟨_, h⟩
        · omega
        · exact h
      have HSC := hide hsc
      clear hsc HS
      obtain ⟨r1, r2, r3⟩ := res_start HF.out.2.1
      obtain ⟨r4, r5, r6⟩ := res_row HF.out.2.1
      by_cases h7 : k < 7
      · have HP := hide (show parseR s.data.toList = none from parse_none_of fun ip b lo hi h => by
          have h1 := scan_parse h
          rw [HSC.out] at h1
          rw [Option.some.inj h1] at hlen
          exact absurd hlen (by show 7 ≠ k; omega))
        go_wp2_with (refine bodyPost_ret (results_net rfl _ _ w.heap.size 0 0 0 0 (.bool false) rfl rfl (setRow_heap _ _ _ _ _ _ HF.out.2.1)) rfl ⟨?_, ?_⟩; (· rw [HP.out]; rfl); (· exact below_setRow HF.out.1 (Nat.le_refl _) _))
      · obtain rfl : k = 7 := by omega
        obtain ⟨a, b, c, d, e, f', g, rfl⟩ := len7 hlen
        have n0 : wr.cell? ⟨w.heap.size + 1, 0, none⟩ = some (.int .i64 a) := HF.out.cell 0 (by omega)
        have n1 : wr.cell? ⟨w.heap.size + 1, 1, none⟩ = some (.int .i64 b) := HF.out.cell 1 (by omega)
        have n2 : wr.cell? ⟨w.heap.size + 1, 2, none⟩ = some (.int .i64 c) := HF.out.cell 2 (by omega)
        have n3 : wr.cell? ⟨w.heap.size + 1, 3, none⟩ = some (.int .i64 d) := HF.out.cell 3 (by omega)
        have n4 : wr.cell? ⟨w.heap.size + 1, 4, none⟩ = some (.int .i64 e) := HF.out.cell 4 (by omega)
        have n5 : wr.cell? ⟨w.heap.size + 1, 5, none⟩ = some (.int .i64 f') := HF.out.cell 5 (by omega)
        have n6 : wr.cell? ⟨w.heap.size + 1, 6, none⟩ = some (.int .i64 g) := HF.out.cell 6 (by omega)
        have me : e ≤ 70000 := HM.out e (by simp)
        have mf : f' ≤ 70000 := HM.out f' (by simp)
        have mg : g ≤ 70000 := HM.out g (by simp)
        have HQ := hide (show ∀ ip' b' lo' hi', parseR s.data.toList = some (ip', b', lo', hi') → [a, b, c, d, e, f', g] = netNums ip' b' lo' hi' from fun ip' b' lo' hi' h => by
          have h1 := scan_parse h
          rw [HSC.out] at h1
          exact Option.some.inj h1)
        clear r1 r2 r3 r4 r5 r6
        by_cases h255 : a ≤ 255 ∧ b ≤ 255 ∧ c ≤ 255 ∧ d ≤ 255
        · obtain ⟨ha, hb, hc, hd⟩ := h255
          have hip := ipOf_lt ha hb hc hd
          have hipe : (a : Int) * 16777216 + (b : Int) * 65536 + (c : Int) * 256 + (d : Int) = (ipOf a b c d : Nat) := by unfold ipOf; omega
          have HPS := hide (show ∀ ip' b' lo' hi', parseR s.data.toList = some (ip', b', lo', hi') → faultOf (ipOf a b c d) e f' g = 0 ∧ netText (ipOf a b c d) e f' g = s.data.toList from fun ip' b' lo' hi' h => by
            obtain ⟨q1, q2, q3⟩ := parse_some h
            have q4 := HQ.out _ _ _ _ h
            simp only [netNums, List.cons.injEq, and_true] at q4
            obtain ⟨w0, w1, w2, w3, rfl, rfl, rfl⟩ := q4
            have q5 : ipOf a b c d = ip' := by rw [w0, w1, w2, w3]; exact ipOf_parts ip' q1
            rw [q5]
            exact ⟨q2, q3.symm⟩)
          obtain ⟨ip, hip0⟩ : ∃ n, n = ipOf a b c d := ⟨_, rfl⟩
          rw [← hip0] at hip hipe HPS
          clear hip0
          by_cases hf : faultOf ip e f' g = 0
          · have HE := hide hf
            obtain ⟨tx, htx⟩ : ∃ t : ByteArray, t = ⟨(netText ip e f' g).toArray⟩ := ⟨_, rfl⟩
            have HT := fun V => netText_any ip hip e f' g hf V
            rw [← htx] at HT
            by_cases ht : netText ip e f' g = s.data.toList
            · have HP := hide (show parseR s.data.toList = some (ip, e, f', g) by rw [← ht]; exact parse_text hip hf)
              have hcmp : (tx.toList == s.toList) = true := by rw [Lib.toList_data, Lib.toList_data, htx, beq_iff_eq]; exact ht
              clear htx ht hf
              go_wp2_with (first
                | (go_at_call 41; refine (netFault_any ip hip e f' g ⟨by omega, by omega⟩ ⟨by omega, by omega⟩ ⟨by omega, by omega⟩ _).mono ?_; rw [HE.out]; rintro e V ⟨rfl, hV⟩; obtain ⟨HV, hx⟩ := fx_on HF hV; clear hV; obtain ⟨r1, r2, r3⟩ := res_start HV.out.2.1; obtain ⟨r4, r5, r6⟩ := res_row HV.out.2.1; have x0 := cell_of_row _ _ 0 _ _ _ hx; have x1 := cell_of_row _ _ 1 _ _ _ hx; have x2 := cell_of_row _ _ 2 _ _ _ hx; have x3 := cell_of_row _ _ 3 _ _ _ hx)
                | (go_at_call 51; refine (HT _).mono ?_; rintro e V2 ⟨rfl, hV2⟩; have HV2 := hide (HV.out.on hV2); have hx2 := (hV2.block _ (Array.getElem?_eq_some_iff.1 hx).1).trans hx; clear hV2; obtain ⟨r1, r2, r3⟩ := res_start HV2.out.2.1; obtain ⟨r4, r5, r6⟩ := res_row HV2.out.2.1; have x0 := cell_of_row _ _ 0 _ _ _ hx2; have x1 := cell_of_row _ _ 1 _ _ _ hx2; have x2 := cell_of_row _ _ 2 _ _ _ hx2; have x3 := cell_of_row _ _ 3 _ _ _ hx2)
                | (refine bodyPost_ret (results_net rfl _ _ w.heap.size ip e f' g (.bool true) rfl rfl (setRow_heap _ _ _ _ _ _ HV2.out.2.1)) rfl ⟨?_, ?_⟩; (· rw [HP.out]; rfl); (· exact below_setRow HV2.out.1 (Nat.le_refl _) _)))
            · have HP := hide (show parseR s.data.toList = none from parse_none_of fun _ _ _ _ h => ht (HPS.out _ _ _ _ h).2)
              have hcmp : (tx.toList == s.toList) = false := by rw [Lib.toList_data, Lib.toList_data, htx, beq_eq_false_iff_ne]; exact ht
              clear htx ht hf
              go_wp2_with (first
                | (go_at_call 41; refine (netFault_any ip hip e f' g ⟨by omega, by omega⟩ ⟨by omega, by omega⟩ ⟨by omega, by omega⟩ _).mono ?_; rw [HE.out]; rintro e V ⟨rfl, hV⟩; obtain ⟨HV, hx⟩ := fx_on HF hV; clear hV; obtain ⟨r1, r2, r3⟩ := res_start HV.out.2.1; obtain ⟨r4, r5, r6⟩ := res_row HV.out.2.1; have x0 := cell_of_row _ _ 0 _ _ _ hx; have x1 := cell_of_row _ _ 1 _ _ _ hx; have x2 := cell_of_row _ _ 2 _ _ _ hx; have x3 := cell_of_row _ _ 3 _ _ _ hx)
                | (go_at_call 51; refine (HT _).mono ?_; rintro e V2 ⟨rfl, hV2⟩; have HV2 := hide (HV.out.on hV2); have hx2 := (hV2.block _ (Array.getElem?_eq_some_iff.1 hx).1).trans hx; clear hV2; obtain ⟨r1, r2, r3⟩ := res_start HV2.out.2.1; obtain ⟨r4, r5, r6⟩ := res_row HV2.out.2.1; have x0 := cell_of_row _ _ 0 _ _ _ hx2; have x1 := cell_of_row _ _ 1 _ _ _ hx2; have x2 := cell_of_row _ _ 2 _ _ _ hx2; have x3 := cell_of_row _ _ 3 _ _ _ hx2)
                | (refine bodyPost_ret (results_net rfl _ _ w.heap.size 0 0 0 0 (.bool false) rfl rfl (setRow_heap _ _ _ _ _ _ HV2.out.2.1)) rfl ⟨?_, ?_⟩; (· rw [HP.out]; rfl); (· exact below_setRow HV2.out.1 (Nat.le_refl _) _)))
          · have HP := hide (show parseR s.data.toList = none from parse_none_of fun _ _ _ _ h => hf (HPS.out _ _ _ _ h).1)
            obtain ⟨n, hn⟩ : ∃ n, n = faultOf ip e f' g := ⟨_, rfl⟩
            have HE := hide hn.symm
            have hn0 : 0 < n := by omega
            clear hn hf
            go_wp2_with (first
              | (go_at_call 41; refine (netFault_any ip hip e f' g ⟨by omega, by omega⟩ ⟨by omega, by omega⟩ ⟨by omega, by omega⟩ _).mono ?_; rw [HE.out]; rintro e V ⟨rfl, hV⟩; obtain ⟨HV, hx⟩ := fx_on HF hV; clear hV; obtain ⟨r1, r2, r3⟩ := res_start HV.out.2.1; obtain ⟨r4, r5, r6⟩ := res_row HV.out.2.1; have x0 := cell_of_row _ _ 0 _ _ _ hx; have x1 := cell_of_row _ _ 1 _ _ _ hx; have x2 := cell_of_row _ _ 2 _ _ _ hx; have x3 := cell_of_row _ _ 3 _ _ _ hx)
              | (refine bodyPost_ret (results_net rfl _ _ w.heap.size 0 0 0 0 (.bool false) rfl rfl (setRow_heap _ _ _ _ _ _ HV.out.2.1)) rfl ⟨?_, ?_⟩; (· rw [HP.out]; rfl); (· exact below_setRow HV.out.1 (Nat.le_refl _) _)))
        · have HP := hide (show parseR s.data.toList = none from parse_none_of fun ip' b' lo' hi' h => by
            have q4 := HQ.out _ _ _ _ h
            obtain ⟨q1, _, _⟩ := parse_some h
            simp only [netNums, List.cons.injEq, and_true] at q4
            exact h255 (by omega))
          obtain ⟨r1, r2, r3⟩ := res_start HF.out.2.1
          obtain ⟨r4, r5, r6⟩ := res_row HF.out.2.1
          by_cases ha : a ≤ 255
          · by_cases hb : b ≤ 255
            · by_cases hc : c ≤ 255
              · have hd : 255 < d := by omega
                clear h255
                go_wp2_with (refine bodyPost_ret (results_net rfl _ _ w.heap.size 0 0 0 0 (.bool false) rfl rfl (setRow_heap _ _ _ _ _ _ HF.out.2.1)) rfl ⟨?_, ?_⟩; (· rw [HP.out]; rfl); (· exact below_setRow HF.out.1 (Nat.le_refl _) _))
              · clear h255
                go_wp2_with (refine bodyPost_ret (results_net rfl _ _ w.heap.size 0 0 0 0 (.bool false) rfl rfl (setRow_heap _ _ _ _ _ _ HF.out.2.1)) rfl ⟨?_, ?_⟩; (· rw [HP.out]; rfl); (· exact below_setRow HF.out.1 (Nat.le_refl _) _))
            · clear h255
              go_wp2_with (refine bodyPost_ret (results_net rfl _ _ w.heap.size 0 0 0 0 (.bool false) rfl rfl (setRow_heap _ _ _ _ _ _ HF.out.2.1)) rfl ⟨?_, ?_⟩; (· rw [HP.out]; rfl); (· exact below_setRow HF.out.1 (Nat.le_refl _) _))
          · clear h255
            go_wp2_with (refine bodyPost_ret (results_net rfl _ _ w.heap.size 0 0 0 0 (.bool false) rfl rfl (setRow_heap _ _ _ _ _ _ HF.out.2.1)) rfl ⟨?_, ?_⟩; (· rw [HP.out]; rfl); (· exact below_setRow HF.out.1 (Nat.le_refl _) _))
end Go.Proofs.YtkogafponpjdnaaGreatDoor

/- The document's side: a text cut at each of a byte. -/
namespace Go.Proofs.YtkogafponpjdnaaGreatDoor
open Go.RowKit Go.Sort

/-- Texts in a row. -/
structure IsStrs (oa : Option Addr) (ws : List W8) (W : World) : Prop where
  lie : 0 < ws.length → ∃ b off, oa = some ⟨b, off, none⟩ ∧ b < W.heap.size ∧ ∀ i x, ws[i]? = some x → W.cell? ⟨b, off + i, none⟩ = some (.string (bs x))
theorem IsStrs.on {oa : Option Addr} {ws : List W8} {W V : World} (h : IsStrs oa ws W) (hb : Below W.heap.size W V) : IsStrs oa ws V :=
  ⟨fun h0 => by
    obtain ⟨b, off, h1, h2, h3⟩ := h.lie h0
    exact ⟨b, off, h1, Nat.lt_of_lt_of_le h2 hb.size, fun i x hi => keep_cell hb (h3 i x hi)⟩⟩
def strsL (ws : List W8) : List Value := ws.map fun x => Value.string (bs x)
theorem info_str : ∃ i, Tryz.prog.info? 9 = some i ∧ i.zero = some (.string ⟨#[]⟩) ∧ i.size = 1 ∧ i.bytes = 16 := by
  have hz : (Tryz.prog.info? 9).map (·.zero) = some (some (.string ⟨#[]⟩)) := by kernel_rfl
  have hs : (Tryz.prog.info? 9).map (·.size) = some 1 := by kernel_rfl
  have hb : (Tryz.prog.info? 9).map (·.bytes) = some 16 := by kernel_rfl
  cases hq : Tryz.prog.info? 9 with
  | none => rw [hq] at hs; simp at hs
  | some i =>
    rw [hq] at hz hs hb
    simp at hz hs hb
    exact ⟨i, rfl, hz, hs, hb⟩
theorem strs_owned {W : World} {base : Nat} {v : Value} {ws : List W8} (h : W.ownsRow base 9 1 v ws.length (strsL ws)) : ∃ oa cap, v = .slice oa ws.length cap ∧ ws.length ≤ cap ∧ cap ≤ maxLen ∧ IsStrs oa ws W := by
  have h' := h
  rcases h.2 with ⟨rfl, hn⟩ | ⟨g, cap, cur, rfl, hb, hg, h1, h2, h3, h4⟩
  · exact ⟨none, 0, by rw [hn], by omega, by unfold maxLen; omega, ⟨fun h0 => by omega⟩⟩
  · refine ⟨_, cap, rfl, h1, h2, ⟨fun h0 => ⟨g, 0, rfl, (h'.lt g rfl).2, fun i x hx => ?_⟩⟩⟩
    have h5 := h'.cells (g := g) rfl i (.string (bs x)) (by unfold strsL; rw [List.getElem?_map, hx]; rfl)
    rwa [show (⟨g, 0, none⟩ : Addr).add i = ⟨g, 0 + i, none⟩ by unfold Addr.add; split <;> simp_all] at h5

/-- What has been cut when the next byte is at i, the word begun at f. -/
def CutAt (c : UInt8) (l : W8) (f i : Nat) (ws : List W8) : Prop := (i ≤ l.length ∧ f ≤ i ∧ splitC c l = ws ++ splitC c (l.drop f) ∧ c ∉ seg l f i) ∨ (i = l.length + 1 ∧ ws = splitC c l)
theorem CutAt.start (c : UInt8) (l : W8) : CutAt c l 0 0 [] := .inl ⟨Nat.zero_le _, Nat.le_refl _, by simp, by rw [seg_nil]; simp⟩
theorem seg_split (l : W8) (f i : Nat) (hf : f ≤ i) (_hi : i ≤ l.length) : l.drop f = seg l f i ++ l.drop i := by
  unfold seg
  conv => lhs; rw [← List.take_append_drop (i - f) (l.drop f), List.drop_drop, show f + (i - f) = i by omega]
theorem CutAt.cut {c : UInt8} {s : ByteArray} {f i : Nat} {ws : List W8} (h : CutAt c s.data.toList f i ws) (hi : i < s.size) (hc : byteAt s i = c.toNat) : CutAt c s.data.toList (i + 1) (i + 1) (ws ++ [seg s.data.toList f i]) := by
  have hl : s.data.toList.length = s.size := (Lib.size_eq s).symm
  rcases h with ⟨h1, h2, h3, h4⟩ | ⟨h1, _⟩
  · refine .inl ⟨by omega, Nat.le_refl _, ?_, by rw [seg_nil]; simp⟩
    rw [h3, seg_split _ f i h2 h1, drop_cons s i hi, hc, show UInt8.ofNat c.toNat = c by simp, splitC_app c _ _ h4, List.append_assoc]
    rfl
  · omega
theorem CutAt.step {c : UInt8} {s : ByteArray} {f i : Nat} {ws : List W8} (h : CutAt c s.data.toList f i ws) (hi : i < s.size) (hc : byteAt s i ≠ c.toNat) : CutAt c s.data.toList f (i + 1) ws := by
  have hl : s.data.toList.length = s.size := (Lib.size_eq s).symm
  rcases h with ⟨h1, h2, h3, h4⟩ | ⟨h1, _⟩
  · refine .inl ⟨by omega, by omega, h3, ?_⟩
    rw [seg_snoc s f i h2 hi, List.mem_append, List.mem_singleton]
    rintro (h | h)
    · exact h4 h
    · refine hc ?_
      rw [h, UInt8.toNat_ofNat', Nat.mod_eq_of_lt (byteAt_lt s i)]
  · omega
theorem CutAt.last {c : UInt8} {s : ByteArray} {f : Nat} {ws : List W8} (h : CutAt c s.data.toList f s.size ws) : CutAt c s.data.toList (s.size + 1) (s.size + 1) (ws ++ [seg s.data.toList f s.size]) := by
  have hl : s.data.toList.length = s.size := (Lib.size_eq s).symm
  rcases h with ⟨h1, h2, h3, h4⟩ | ⟨h1, _⟩
  · refine .inr ⟨by omega, ?_⟩
    rw [h3, seg_split _ f s.size h2 h1, drop_end, List.append_nil, splitC_self c _ h4]
  · omega

set_option maxHeartbeats 2000000 in
set_option maxRecDepth 100000 in
theorem dcut_any (s : ByteArray) (hs : s.size ≤ 9000) (c : UInt8) (cn : Nat) (hcn : cn = c.toNat) (w : World) : Calls Tryz.prog 36 #[.string s, .int .u8 cn] w fun e w' => (∃ oa cap, e = .returned (.slice oa (splitC c s.data.toList).length cap) ∧ (splitC c s.data.toList).length ≤ cap ∧ cap ≤ maxLen ∧ IsStrs oa (splitC c s.data.toList) w') ∧ Below w.heap.size w w' := by
  have HCN := hide hcn
  have hc256 : cn < 256 := by rw [hcn]; exact c.toNat_lt
  clear hcn
  obtain ⟨inf, hi0, hz0, hz1, hz2⟩ := info_str
  go_enter Tryz.func36, Tryz.ntmps36
  go_wp2
  go_loopw [5, 6, 7] (fun L F I w' => ∃ (f i : Nat) (ws : List W8) (lv : Value), L = lv ∧ f ≤ i ∧ i ≤ s.size + 1 ∧ F = .int .i64 f ∧ I = .int .i64 i ∧ Hid (CutAt c s.data.toList f i ws) ∧ ws.length ≤ i ∧ Hid (w'.ownsRow w.heap.size 9 1 lv ws.length (strsL ws)) ∧ Hid (Below w.heap.size w w')) (fun _ _ I _ => s.size + 1 - (intOf I).toNat)
  case atStart => exact ⟨0, 0, [], _, rfl, by omega, by omega, rfl, rfl, hide (CutAt.start _ _), by simp, hide (World.ownsRow_nil _ _ _ _), hide (Below.refl _ _)⟩
  case round =>
    obtain ⟨f, i, ws, L, hlv, hfi, hi, rfl, rfl, HC, hwl, HO, HB⟩ := hrel
    replace hlv := hlv.symm
    subst hlv
    have hbs := HB.out.size
    have i0 : (0 : Int) ≤ f := by omega
    have i1 : (f : Int) ≤ i := by omega
    by_cases hend : i ≤ s.size
    · have hsg : (s.extract f i) = bs (seg s.data.toList f i) := by
        apply ByteArray.ext
        apply Array.toList_inj.1
        rw [extract_seg]
        unfold bs
        simp
      have i2 : (i : Int) ≤ s.size := by omega
      by_cases hlt : i < s.size
      · have ei := byteAt_eq s i hlt
        by_cases hce : byteAt s i = cn
        · have HC2 := hide (HC.out.cut hlt (hce.trans HCN.out))
          rw [hce] at ei
          clear hce
          go_wp2_with (refine wpList_append_lies _ (by rfl) _ _ _ (by rfl) w.heap.size 9 inf _ 1 16 Tryz.underlying89 hi0 hz0 hz1 hz2 rfl (by omega) L ws.length (strsL ws) (by rfl) (HO.out.alloc _) ⟨wr.heap.size, 0, none⟩ 1 1 [.string (bs (seg s.data.toList f i))] (by rfl) (by rfl) (World.news_of_block (cs := #[.string (bs (seg s.data.toList f i))]) (t := 9) (fr := (0, 0)) (heap_alloc_new wr _)) (by simp [Value.oneCell']) (by omega) (by simp only [maxLen]; omega) (by omega) (by rw [World.size_alloc]; omega) (wr.heap.size + 1) (by simp) ?_; intro g7 cap7 w7 hown7 hgrow7 hat7 hlt7; have HB7 := hide ((HB.out.trans ((box_below wr _).mono hbs)).grown hgrow7 (by rw [World.size_alloc]; omega) (fun k hk => (HO.out.lt k hk).1)); have HO7 := hide hown7; clear hown7 hgrow7 hat7 hlt7)
          replace HO7 := hide (show w7.ownsRow w.heap.size 9 1 (.slice (some ⟨g7, 0, none⟩) (ws.length + 1) cap7) (ws ++ [seg s.data.toList f i]).length (strsL (ws ++ [seg s.data.toList f i])) by
            have := HO7.out
            unfold strsL at this ⊢
            rw [List.length_append, List.length_singleton, List.map_append]
            exact this)
          go_wp2
          go_round
          case rel => exact ⟨i + 1, i + 1, _, _, rfl, by omega, by omega, by go_num, by go_num, HC2, by rw [List.length_append, List.length_singleton]; omega, HO7, HB7⟩
          case measure => simp [intOf]; omega
        · have HC2 := hide (HC.out.step hlt (fun h => hce (h.trans HCN.out.symm)))
          have hb1 : ((byteAt s i : Int) == (cn : Int)) = false := by simp; omega
          have hb2 : (byteAt s i == cn) = false := by simpa using hce
          go_wp2
          go_round
          case rel => exact ⟨f, i + 1, ws, _, rfl, by omega, by omega, rfl, by go_num, HC2, by omega, HO, HB⟩
          case measure => simp [intOf]; omega
      · obtain rfl : i = s.size := by omega
        have HC2 := hide HC.out.last
        go_wp2_with (refine wpList_append_lies _ (by rfl) _ _ _ (by rfl) w.heap.size 9 inf _ 1 16 Tryz.underlying89 hi0 hz0 hz1 hz2 rfl (by omega) L ws.length (strsL ws) (by rfl) (HO.out.alloc _) ⟨wr.heap.size, 0, none⟩ 1 1 [.string (bs (seg s.data.toList f s.size))] (by rfl) (by rfl) (World.news_of_block (cs := #[.string (bs (seg s.data.toList f s.size))]) (t := 9) (fr := (0, 0)) (heap_alloc_new wr _)) (by simp [Value.oneCell']) (by omega) (by simp only [maxLen]; omega) (by omega) (by rw [World.size_alloc]; omega) (wr.heap.size + 1) (by simp) ?_; intro g7 cap7 w7 hown7 hgrow7 hat7 hlt7; have HB7 := hide ((HB.out.trans ((box_below wr _).mono hbs)).grown hgrow7 (by rw [World.size_alloc]; omega) (fun k hk => (HO.out.lt k hk).1)); have HO7 := hide hown7; clear hown7 hgrow7 hat7 hlt7)
        replace HO7 := hide (show w7.ownsRow w.heap.size 9 1 (.slice (some ⟨g7, 0, none⟩) (ws.length + 1) cap7) (ws ++ [seg s.data.toList f s.size]).length (strsL (ws ++ [seg s.data.toList f s.size])) by
          have := HO7.out
          unfold strsL at this ⊢
          rw [List.length_append, List.length_singleton, List.map_append]
          exact this)
        go_wp2
        go_round
        case rel => exact ⟨s.size + 1, s.size + 1, _, _, rfl, by omega, by omega, by go_num, by go_num, HC2, by rw [List.length_append, List.length_singleton]; omega, HO7, HB7⟩
        case measure => simp [intOf]
    · obtain rfl : i = s.size + 1 := by omega
      have hws : ws = splitC c s.data.toList := by
        rcases HC.out with ⟨h1, _⟩ | ⟨_, h⟩
        · rw [← Lib.size_eq] at h1; omega
        · exact h
      subst hws
      obtain ⟨oa, cap, hL, q1, q2, q3⟩ := strs_owned HO.out
      subst hL
      go_wp2
      go_ret
      exact ⟨⟨oa, cap, rfl, q1, q2, q3⟩, HB.out⟩
end Go.Proofs.YtkogafponpjdnaaGreatDoor
