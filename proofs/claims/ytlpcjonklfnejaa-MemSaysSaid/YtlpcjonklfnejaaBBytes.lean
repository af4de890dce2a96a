/- appendInsn, Bytes. -/
import Derived.Test.YtlpcjonklfnejaaBRun
import Derived.OwnWalk
import Derived.Lib.Builder
import Derived.Lib.SmallJoins
import Derived.Deep.RegionHeld3
import Derived.Deep.AppendLies
import Derived.Laws.MakeOwn
namespace Go.Proofs.Ytlpcjonklfnejaa
open Go.RowKit

def u8s (l : List Nat) : List Value := l.map fun x : Nat => .int .u8 (x : Int)
theorem u8s_append (l q : List Nat) : u8s (l ++ q) = u8s l ++ u8s q := List.map_append
theorem u8s_len (l : List Nat) : (u8s l).length = l.length := List.length_map _
/-- A number's four bytes, the lowest first. -/
def kb (k : Nat) : List Nat := [k % 256, k / 256 % 256, k / 65536 % 256, k / 16777216 % 256]
/-- An instruction's bytes: D3. -/
def insB (x : IN) : List Nat := [x.op.toNat, 0, x.jt.toNat, x.jf.toNat] ++ kb x.k

theorem info_byte : ∃ i, Try.prog.info? 5 = some i ∧ i.zero = some (.int .u8 0) ∧ i.size = 1 ∧ i.bytes = 1 := by
  have hz : (Try.prog.info? 5).map (·.zero) = some (some (.int .u8 0)) := by kernel_rfl
  have hs : (Try.prog.info? 5).map (·.size) = some 1 := by kernel_rfl
  have hb : (Try.prog.info? 5).map (·.bytes) = some 1 := by kernel_rfl
  cases hq : Try.prog.info? 5 with
  | none => rw [hq] at hs; simp at hs
  | some i =>
    rw [hq] at hz hs hb
    simp at hz hs hb
    exact ⟨i, rfl, hz, hs, hb⟩

/-- Bytes appended to a row of the call's own. -/
theorem wpList_append_u8 {ops : Array Oper} {rest : List Oper} {o : Oper} {a : Act} {w : World} {Q : Exit → Act → World → Prop} (hgd : o.guard = none) (s x : Operand)
    (ho : o.op = .call { callee := .builtin .append, args := #[s, x], argTypes := #[120, 120] })
    (base : Nat) (v : Value) (n : Nat) (l : List Nat) (hs : a.eval s = v) (hown : w.ownsRow base 5 1 v n (u8s l))
    (g m : Nat) (q : List Nat) (arr : Array Value) (hx : a.eval x = .slice (some ⟨g, 0, none⟩) m m) (hg : w.heap[g]? = some (.cells arr 5 (0, 0))) (hq : arr.toList = u8s q) (hm : q.length = m)
    (hn : n ≤ 10000000) (hm2 : m ≤ 1000) (hbase : base ≤ w.heap.size)
    (h : ∀ v' w', w'.ownsRow base 5 1 v' (n + m) (u8s (l ++ q)) → w.grownBy w' v.ownBlock → wpList Try.prog ops Q rest (a.put o.dst v') w') : wpList Try.prog ops Q (o :: rest) a w := by
  obtain ⟨i, hi, hz, hsz, hby⟩ := info_byte
  refine wpList_append_own (P := Try.prog) w hgd s x 120 ho base 5 i _ 1 1 Try.underlying120 hi hz hsz hby rfl (by decide) v n (u8s l) hs hown ⟨g, 0, none⟩ m m (u8s q) hx (by rw [u8s_len, hm, Nat.mul_one]) ?_ ?_ (by simp only [maxLen]; omega) (by omega) hbase ?_
  · intro j u hu
    have hadd : (⟨g, 0, none⟩ : Addr).add j = ⟨g, j, none⟩ := by unfold Addr.add; split <;> simp_all
    rw [hadd, cell_of_row w g j _ _ _ hg, ← hu, ← hq, Array.getElem?_toList]
  · intro u hu
    unfold u8s at hu
    rw [List.mem_map] at hu
    obtain ⟨y, _, rfl⟩ := hu
    rfl
  · intro v' w' h1 h2 _
    rw [← u8s_append] at h1
    exact h v' w' h1 h2

theorem alloc_size (w : World) (o : Obj) : (w.alloc o).heap.size = w.heap.size + 1 := by simp
theorem heap_alloc2 (w : World) (o1 o2 : Obj) : ((w.alloc o1).alloc o2).heap[w.heap.size + 1]? = some o2 := by
  have h := heap_alloc_new (w.alloc o1) o2
  rw [alloc_size] at h
  exact h
theorem heap_alloc_before (w : World) (o1 o2 : Obj) : ((w.alloc o1).alloc o2).heap[w.heap.size]? = some o1 :=
  (heap_alloc_old (w.alloc o1) o2 (h := by rw [alloc_size]; omega)).trans (heap_alloc_new w o1)
/-- A box of another type is no row of bytes. -/
theorem box_apart {W : World} {base g n : Nat} {v : Value} {xs : List Value} {cs : Array Value} (h : W.ownsRow base 5 1 v n xs) (hb : W.heap[g]? = some (.cells cs 78 (0, 0))) : some g ≠ v.ownBlock := fun e => Go.Lib.ownBlock_ne h hb (by decide) e.symm
theorem box_later {w w1 : World} {base n : Nat} {v : Value} {xs : List Value} {cs : Array Value} {o : Obj} (h : w.ownsRow base 5 1 v n xs) (hg : ((w.alloc (.cells cs 78)).alloc o).grownBy w1 v.ownBlock) : w1.heap[w.heap.size]? = some (.cells cs 78 (0, 0)) :=
  (hg.block w.heap.size (by simp; omega) (box_apart (cs := cs) ((h.alloc (.cells cs 78)).alloc o) (heap_alloc_before w (.cells cs 78) o))).trans (heap_alloc_before w (.cells cs 78) o)
theorem box_stays {w w1 : World} {base n g : Nat} {v : Value} {xs : List Value} {cs : Array Value} {o : Obj} (h : w.ownsRow base 5 1 v n xs) (hb : w.heap[g]? = some (.cells cs 78 (0, 0))) (hg : (w.alloc o).grownBy w1 v.ownBlock) : w1.heap[g]? = some (.cells cs 78 (0, 0)) :=
  (hg.block g (by have := (Array.getElem?_eq_some_iff.1 hb).1; simp; omega) (box_apart h hb)).trans ((heap_alloc_old w o (h := (Array.getElem?_eq_some_iff.1 hb).1)).trans hb)
structure Small (x : IN) : Prop where
  o1 : 0 ≤ x.op
  o2 : x.op ≤ 255
  t1 : 0 ≤ x.jt
  t2 : x.jt ≤ 255
  f1 : 0 ≤ x.jf
  f2 : x.jf ≤ 255
  k2 : x.k < 4294967296

theorem kb_take (k i : Nat) (hi : i < 4) : (kb k).take (i + 1) = (kb k).take i ++ [k / 256 ^ i % 256] := by
  match i, hi with
  | 0, _ => simp [kb]
  | 1, _ => simp [kb]
  | 2, _ => simp [kb]
  | 3, _ => simp [kb]

set_option maxRecDepth 20000 in
theorem appendInsn_any (base : Nat) (v : Value) (n : Nat) (l : List Nat) (x : IN) (hx : Small x) (w : World) (hown : w.ownsRow base 5 1 v n (u8s l)) (hbase : base ≤ w.heap.size) (hn : n ≤ 1000000) :
    Calls Try.prog 66 #[v, insV x] w fun e w' => ∃ v', e = .returned v' ∧ w'.ownsRow base 5 1 v' (n + 8) (u8s (l ++ insB x)) ∧ Below base w w' := by
  obtain ⟨op, jt, jf, k⟩ := x
  obtain ⟨o1, o2, t1, t2, f1, f2, k2⟩ := hx
  simp only at o1 o2 t1 t2 f1 f2 k2
  obtain ⟨op', rfl⟩ : ∃ m : Nat, op = m := ⟨op.toNat, by omega⟩
  obtain ⟨jt', rfl⟩ : ∃ m : Nat, jt = m := ⟨jt.toNat, by omega⟩
  obtain ⟨jf', rfl⟩ : ∃ m : Nat, jf = m := ⟨jf.toNat, by omega⟩
  have HO := hide hown
  clear hown
  unfold insV
  simp only
  go_enter Try.func66, Try.ntmps66
  go_wp2_with (at_builtin; (refine wpList_append_u8 rfl _ _ rfl base v n l ?_ ?_ (w.heap.size + 1) 4 [op', 0, jt', jf'] ?_ ?_ ?_ ?_ ?_ ?_ ?_ ?_ ?_); (· rfl); (· exact (HO.out.alloc _).alloc _); (· exact #[.int .u8 op', .int .u8 0, .int .u8 jt', .int .u8 jf']); (· rfl); (· exact heap_alloc2 _ _ _); (· rfl); (· rfl); (· omega); (· omega); (· simp; omega); intro v1 w1 ho1 hg1)
  have HBX := hide (box_later HO.out hg1)
  have HB1 := hide (show Below base w w1 from (((Below.refl base w).alloc hbase _).alloc (by simp; omega) _).grown hg1 (by simp; omega) fun k hk => (HO.out.lt k hk).1)
  replace ho1 := hide ho1
  clear hg1
  obtain ⟨gx, hgx⟩ : ∃ g, g = w.heap.size := ⟨_, rfl⟩
  rw [← hgx] at HBX ⊢
  clear hgx
  go_loopw [0, 18] (fun V I wr => ∃ i : Nat, i ≤ 4 ∧ I = .int .i64 i ∧ Hid (wr.ownsRow base 5 1 V (n + 4 + i) (u8s (l ++ [op', 0, jt', jf'] ++ (kb k).take i))) ∧ Hid (Below base w wr) ∧ Hid (wr.heap[gx]? = some (.cells #[.int .i64 op', .int .i64 jt', .int .i64 jf', .int .u32 k] 78 (0, 0)))) (fun _ I _ => 4 - (intOf I).toNat)
  case atStart => exact ⟨0, by omega, rfl, hide (by rw [List.take_zero, List.append_nil]; exact ho1.out), HB1, HBX⟩
  case round =>
    obtain ⟨i, hi, rfl, HR, HB, HX⟩ := hrel
    by_cases hlt : i < 4
    · have c3 : wr.cell? ⟨gx, 3, none⟩ = some (.int .u32 k) := by rw [cell_of_row _ _ 3 _ _ _ HX.out]; rfl
      have hbs : base ≤ wr.heap.size := Nat.le_trans hbase HB.out.size
      have hcase : i = 0 ∨ i = 1 ∨ i = 2 ∨ i = 3 := by omega
      have HRB := hide hbs
      have hsz : wr.heap.size ≠ gx := fun e => by
        have h := HX.out
        rw [← e] at h
        simp at h
      rcases hcase with rfl | rfl | rfl | rfl
      · go_wp2_with (at_builtin; (refine wpList_append_u8 rfl _ _ rfl base u0 (n + 4 + 0) (l ++ [op', 0, jt', jf'] ++ (kb k).take 0) ?_ ?_ wr.heap.size 1 [k / 256 ^ 0 % 256] ?_ ?_ ?_ ?_ ?_ ?_ ?_ ?_ ?_); (· rfl); (· exact HR.out.alloc _); (· exact #[.int .u8 ((k / 256 ^ 0 % 256 : Nat) : Int)]); (· rfl); (· (refine (heap_alloc_new _ _).trans ?_; simp <;> omega)); (· rfl); (· rfl); (· omega); (· omega); (· simp; omega); intro v2 w2 ho2 hg2)
        have HX2 := hide (box_stays HR.out HX.out hg2)
        have HB2 := hide ((HB.out.alloc hbs _).grown hg2 (by simp; omega) fun k hk => (HR.out.lt k hk).1)
        have HO2 := hide (show w2.ownsRow base 5 1 v2 (n + 4 + (0 + 1)) (u8s (l ++ [op', 0, jt', jf'] ++ (kb k).take (0 + 1))) by rw [kb_take k 0 (by omega), ← List.append_assoc]; exact ho2)
        clear hg2 ho2
        go_round
        case rel => exact ⟨0 + 1, by omega, by go_num, HO2, HB2, HX2⟩
        case measure => simp [intOf]
      · go_wp2_with (at_builtin; (refine wpList_append_u8 rfl _ _ rfl base u0 (n + 4 + 1) (l ++ [op', 0, jt', jf'] ++ (kb k).take 1) ?_ ?_ wr.heap.size 1 [k / 256 ^ 1 % 256] ?_ ?_ ?_ ?_ ?_ ?_ ?_ ?_ ?_); (· rfl); (· exact HR.out.alloc _); (· exact #[.int .u8 ((k / 256 ^ 1 % 256 : Nat) : Int)]); (· rfl); (· (refine (heap_alloc_new _ _).trans ?_; simp <;> omega)); (· rfl); (· rfl); (· omega); (· omega); (· simp; omega); intro v2 w2 ho2 hg2)
        have HX2 := hide (box_stays HR.out HX.out hg2)
        have HB2 := hide ((HB.out.alloc hbs _).grown hg2 (by simp; omega) fun k hk => (HR.out.lt k hk).1)
        have HO2 := hide (show w2.ownsRow base 5 1 v2 (n + 4 + (1 + 1)) (u8s (l ++ [op', 0, jt', jf'] ++ (kb k).take (1 + 1))) by rw [kb_take k 1 (by omega), ← List.append_assoc]; exact ho2)
        clear hg2 ho2
        go_round
        case rel => exact ⟨1 + 1, by omega, by go_num, HO2, HB2, HX2⟩
        case measure => simp [intOf]
      · go_wp2_with (at_builtin; (refine wpList_append_u8 rfl _ _ rfl base u0 (n + 4 + 2) (l ++ [op', 0, jt', jf'] ++ (kb k).take 2) ?_ ?_ wr.heap.size 1 [k / 256 ^ 2 % 256] ?_ ?_ ?_ ?_ ?_ ?_ ?_ ?_ ?_); (· rfl); (· exact HR.out.alloc _); (· exact #[.int .u8 ((k / 256 ^ 2 % 256 : Nat) : Int)]); (· rfl); (· (refine (heap_alloc_new _ _).trans ?_; simp <;> omega)); (· rfl); (· rfl); (· omega); (· omega); (· simp; omega); intro v2 w2 ho2 hg2)
        have HX2 := hide (box_stays HR.out HX.out hg2)
        have HB2 := hide ((HB.out.alloc hbs _).grown hg2 (by simp; omega) fun k hk => (HR.out.lt k hk).1)
        have HO2 := hide (show w2.ownsRow base 5 1 v2 (n + 4 + (2 + 1)) (u8s (l ++ [op', 0, jt', jf'] ++ (kb k).take (2 + 1))) by rw [kb_take k 2 (by omega), ← List.append_assoc]; exact ho2)
        clear hg2 ho2
        go_round
        case rel => exact ⟨2 + 1, by omega, by go_num, HO2, HB2, HX2⟩
        case measure => simp [intOf]
      · go_wp2_with (at_builtin; (refine wpList_append_u8 rfl _ _ rfl base u0 (n + 4 + 3) (l ++ [op', 0, jt', jf'] ++ (kb k).take 3) ?_ ?_ wr.heap.size 1 [k / 256 ^ 3 % 256] ?_ ?_ ?_ ?_ ?_ ?_ ?_ ?_ ?_); (· rfl); (· exact HR.out.alloc _); (· exact #[.int .u8 ((k / 256 ^ 3 % 256 : Nat) : Int)]); (· rfl); (· (refine (heap_alloc_new _ _).trans ?_; simp <;> omega)); (· rfl); (· rfl); (· omega); (· omega); (· simp; omega); intro v2 w2 ho2 hg2)
        have HX2 := hide (box_stays HR.out HX.out hg2)
        have HB2 := hide ((HB.out.alloc hbs _).grown hg2 (by simp; omega) fun k hk => (HR.out.lt k hk).1)
        have HO2 := hide (show w2.ownsRow base 5 1 v2 (n + 4 + (3 + 1)) (u8s (l ++ [op', 0, jt', jf'] ++ (kb k).take (3 + 1))) by rw [kb_take k 3 (by omega), ← List.append_assoc]; exact ho2)
        clear hg2 ho2
        go_round
        case rel => exact ⟨3 + 1, by omega, by go_num, HO2, HB2, HX2⟩
        case measure => simp [intOf]
    · obtain rfl : i = 4 := by omega
      go_wp2
      go_ret
      refine ⟨_, rfl, ?_, HB.out⟩
      have h := HR.out
      rw [show (kb k).take 4 = kb k from rfl] at h
      rw [show insB ⟨(op' : Int), (jt' : Int), (jf' : Int), k⟩ = [op', 0, jt', jf'] ++ kb k from rfl, ← List.append_assoc]
      exact h
end Go.Proofs.Ytlpcjonklfnejaa
