/- Walks of the predicates on one byte, of strings.IndexByte and strings.HasPrefix. -/
import Derived.Test.YtbifjokfnahiaabGreatDoorK2
import Derived.Lib.Bytealg
import Derived.Lib.Strings
import Derived.Lib.Walk
namespace Go.Proofs.YtbifjokfnahiaabGreatDoor.Gl
open Go.RowKit

/-- 'isName', 'letter'. -/
def nameB (b : Int) : Bool := decide (97 ≤ b) && decide (b ≤ 122) || decide (65 ≤ b) && decide (b ≤ 90) || decide (48 ≤ b) && decide (b ≤ 57) || b == 46 || b == 95
/-- One of the five signs. -/
def signB (b : Int) : Bool := b == 42 || b == 63 || b == 91 || b == 93 || b == 92
def plainB (b : Int) : Bool := decide (33 ≤ b) && decide (b ≤ 126) && b != 34 && !signB b

theorem isName_any (b : Int) (w : World) : Calls Tryz.prog 120 #[.int .u8 b] w fun e w' => e = .returned (.bool (nameB b)) ∧ w' = w := by
  go_enter Tryz.func120, Tryz.ntmps120
  go_wp2
  all_goals
    go_ret
    exact ⟨ret_bool (by rw [Bool.eq_iff_iff]; simp [nameB]; try omega), rfl⟩

set_option maxRecDepth 100000 in
theorem lite_IndexByte (s : ByteArray) (c : Int) (w : World) :
    Calls Tryz.prog 91 #[.string s, .int .u8 c] w fun e w' => e = .returned (.int .i64 (Lib.indexByte s.data.toList c.toNat.toUInt8)) ∧ w' = w := by
  go_enter Tryz.func91, Tryz.ntmps91
  go_wp2
  rw [run_callFunc_extern Tryz.func114 (by kernel_rfl) (by kernel_rfl) (by kernel_rfl) (e := Extern.BytealgIndexByte.indexByte) (by kernel_rfl), Lib.run_indexByteString]
  simp only [Result.andThen]
  rw [Oper.upon_value]
  go_wp2
  go_ret
  exact ⟨rfl, rfl⟩

theorem strings_IndexByte (s : ByteArray) (c : Int) (w : World) :
    Calls Tryz.prog 108 #[.string s, .int .u8 c] w fun e w' => e = .returned (.int .i64 (Lib.indexByte s.data.toList c.toNat.toUInt8)) ∧ w' = w := by
  go_enter Tryz.func108, Tryz.ntmps108
  go_wp2_with (go_at_call 91; refine (lite_IndexByte _ _ _).mono ?_; rintro e w' ⟨rfl, rfl⟩)
  go_ret
  exact ⟨rfl, rfl⟩

/-- Is a byte among the five signs? As Go asks it. -/
theorem signs_index (c : Nat) (hc : c < 256) : decide (Lib.indexByte [42, 63, 91, 93, 92] (UInt8.ofNat c) < 0) = !signB c := by
  have h : ∀ c : Fin 256, decide (Lib.indexByte [42, 63, 91, 93, 92] (UInt8.ofNat c.val) < 0) = !signB c.val := by decide +kernel
  exact h ⟨c, hc⟩

theorem isPlain_any (b : Nat) (hb : b < 256) (w : World) : Calls Tryz.prog 83 #[.int .u8 b] w fun e w' => e = .returned (.bool (plainB b)) ∧ w' = w := by
  have hs := signs_index b hb
  have Hs := hide hs
  clear hs
  go_enter Tryz.func83, Tryz.ntmps83
  go_wp2_with (go_at_call 108; refine (strings_IndexByte _ _ _).mono ?_; rintro e w' ⟨rfl, rfl⟩)
  · go_ret
    exact ⟨ret_bool (by rw [Bool.eq_iff_iff]; simp [plainB]; omega), rfl⟩
  · go_ret
    exact ⟨ret_bool (by rw [Hs.out]; rw [Bool.eq_iff_iff]; simp [plainB]; omega), rfl⟩
  · go_ret
    exact ⟨ret_bool (by rw [Bool.eq_iff_iff]; simp [plainB]; omega), rfl⟩
  · go_ret
    exact ⟨ret_bool (by rw [Bool.eq_iff_iff]; simp [plainB]; omega), rfl⟩

theorem lite_HasPrefix (s p : ByteArray) (w : World) :
    Calls Tryz.prog 106 #[.string s, .string p] w fun e w' => e = .returned (.bool (Lib.hasPrefix s.data.toList p.data.toList)) ∧ w' = w := by
  rw [← Lib.hasPrefix_of_take, ← Lib.size_eq, ← Lib.size_eq]
  go_enter Tryz.func106, Tryz.ntmps106
  go_wp2
  · rename_i h
    go_ret
    refine ⟨?_, rfl⟩
    show Ending.returned (Value.bool ((s.extract 0 p.size).toList == p.toList)) = _
    rw [Lib.extract_toList, Lib.toList_data]
    simp [h]
  · rename_i h
    go_ret
    refine ⟨?_, rfl⟩
    show Ending.returned (Value.bool false) = _
    simp [h]

theorem strings_HasPrefix (s p : ByteArray) (w : World) :
    Calls Tryz.prog 78 #[.string s, .string p] w fun e w' => e = .returned (.bool (Lib.hasPrefix s.data.toList p.data.toList)) ∧ w' = w := by
  go_enter Tryz.func78, Tryz.ntmps78
  go_wp2_with (go_at_call 106; refine (lite_HasPrefix _ _ _).mono ?_; rintro e w' ⟨rfl, rfl⟩)
  go_ret
  exact ⟨rfl, rfl⟩
end Go.Proofs.YtbifjokfnahiaabGreatDoor.Gl

/- Arrays of bools said by a function, for the walks of package glob: no array is ever written out. -/
namespace Go.Proofs.YtbifjokfnahiaabGreatDoor.Gl
open Go.RowKit

/-- n bools, said by a function, as the kernel reckons them. -/
def LA0 (n : Nat) (f : Nat → Bool) : Array Value := Array.ofFn (n := n) fun i => .bool (f i)
/-- The same bools, kept shut: no walk looks into them. -/
def LA (n : Nat) (f : Nat → Bool) : Array Value := if h : n = 0 then #[] else (LA (n - 1) f).push (.bool (f (n - 1)))
theorem LA_eq (n : Nat) (f : Nat → Bool) : LA n f = LA0 n f := by
  induction n with
  | zero => rw [LA]; simp [LA0]
  | succ n ih =>
    rw [LA]
    simp only [Nat.add_one_ne_zero, dite_false, Nat.add_sub_cancel, ih]
    apply Array.ext_getElem?
    intro i
    rw [Array.getElem?_push]
    have hz : (LA0 n f).size = n := by simp [LA0]
    rw [hz]
    by_cases hi : i = n
    · subst hi; simp [LA0]
    · rw [if_neg hi]
      by_cases hl : i < n
      · simp [LA0, hl, show i < n + 1 by omega]
      · simp [LA0, hl, show ¬ i < n + 1 by omega]
/-- A part of a pattern: 256 bools and one. -/
def PF (f : Nat → Bool) (m : Bool) : Nat → Bool := fun i => if i = 256 then m else f i
def upd (f : Nat → Bool) (i : Nat) (b : Bool) : Nat → Bool := fun j => if j = i then b else f j

theorem LA_size (n : Nat) (f : Nat → Bool) : (LA n f).size = n := by rw [LA_eq]; simp [LA0]
theorem LA_get (n : Nat) (f : Nat → Bool) (i : Nat) (h : i < n) : (LA n f)[i]? = some (.bool (f i)) := by rw [LA_eq]; simp [LA0, h]
theorem LA_set (n : Nat) (f : Nat → Bool) (i : Nat) (b : Bool) : (LA n f).setIfInBounds i (.bool b) = LA n (upd f i b) := by
  apply Array.ext_getElem?
  intro j
  rw [Array.getElem?_setIfInBounds]
  by_cases hj : j < n
  · rw [LA_get n f j hj, LA_get n _ j hj, LA_size]
    by_cases h : i = j
    · subst h; simp [upd, hj]
    · have h' : ¬ j = i := fun e => h e.symm
      simp [h, h', upd]
  · have e1 : (LA n f)[j]? = none := by simp [LA_size]; omega
    have e2 : (LA n (upd f i b))[j]? = none := by simp [LA_size]; omega
    rw [e1, e2, LA_size]
    by_cases h : i = j
    · subst h; simp [hj]
    · simp [h]
theorem LA_one (n : Nat) (f : Nat → Bool) : (LA n f).all (·.oneCell') = true := by
  rw [LA_eq, Array.all_eq_true]
  intro i h
  simp [LA0, Value.oneCell']
theorem LA_congr (n : Nat) (f g : Nat → Bool) (h : ∀ i, i < n → f i = g i) : LA n f = LA n g := by
  rw [LA_eq, LA_eq]
  apply Array.ext
  · simp [LA0]
  · intro i h1 h2
    simp only [LA0, Array.size_ofFn] at h1
    simp [LA0, h i h1]

theorem below_setRow {B : Nat} {a w : World} (h : Below B a w) {g : Nat} (hg : B ≤ g) (cs : Array Value) : Below B a (w.setRow g cs) :=
  ⟨h.os, h.tape, h.output, by simpa using h.size, fun k hk => (setRow_other w g k cs (by omega)).trans (h.block k hk)⟩

/-- A type's zero value, n bools. -/
theorem run_zero_LA {P : Program} {t : TypeId} {n : Nat} (h : (P.info? t).map (·.zero) = some (some (.agg (LA n fun _ => false)))) (w : World) :
    (zeroValue t).run P w = .ok (.agg (LA n fun _ => false)) w := by
  cases hq : P.info? t with
  | none => simp [hq] at h
  | some i =>
    simp [hq] at h
    simp [zeroValue, typeInfo, hq, h]

theorem zero_like : (Tryz.prog.info? 116).map (·.zero) = some (some (.agg (LA 256 fun _ => false))) := by rw [LA_eq]; kernel_rfl
theorem zero_part : (Tryz.prog.info? 118).map (·.zero) = some (some (.agg (LA 257 fun _ => false))) := by rw [LA_eq]; kernel_rfl
theorem zero_places : (Tryz.prog.info? 102).map (·.zero) = some (some (.agg (LA 25 fun _ => false))) := by rw [LA_eq]; kernel_rfl
theorem size_like : (Tryz.prog.info? 116).map (·.size) = some 256 := by kernel_rfl
theorem size_part : (Tryz.prog.info? 118).map (·.size) = some 257 := by kernel_rfl
theorem size_places : (Tryz.prog.info? 102).map (·.size) = some 25 := by kernel_rfl
theorem zv_like (w : World) : (zeroValue 116).run Tryz.prog w = .ok (.agg (LA 256 fun _ => false)) w := run_zero_LA zero_like w
theorem zv_part (w : World) : (zeroValue 118).run Tryz.prog w = .ok (.agg (LA 257 fun _ => false)) w := run_zero_LA zero_part w
theorem zv_places (w : World) : (zeroValue 102).run Tryz.prog w = .ok (.agg (LA 25 fun _ => false)) w := run_zero_LA zero_places w

theorem build_like (w : World) : (Instr.build 116 #[]).run Tryz.prog w = .ok (.agg (LA 256 fun _ => false)) w := by rw [LA_eq]; kernel_rfl
theorem build_part0 (w : World) : (Instr.build 118 #[]).run Tryz.prog w = .ok (.agg (LA 257 fun _ => false)) w := by rw [LA_eq]; kernel_rfl
theorem build_places (w : World) : (Instr.build 102 #[(0, .bool true)]).run Tryz.prog w = .ok (.agg (LA 25 fun i => i == 0)) w := by rw [LA_eq]; kernel_rfl
theorem build_part2 (f : Nat → Bool) (m : Bool) (w : World) : (Instr.build 118 #[(0, .agg (LA 256 f)), (1, .bool m)]).run Tryz.prog w = .ok (.agg (LA 257 (PF f m))) w := by rw [LA_eq, LA_eq]; kernel_rfl
theorem build_part1 (f : Nat → Bool) (w : World) : (Instr.build 118 #[(0, .agg (LA 256 f))]).run Tryz.prog w = .ok (.agg (LA 257 (PF f false))) w := by rw [LA_eq, LA_eq]; kernel_rfl
end Go.Proofs.YtbifjokfnahiaabGreatDoor.Gl

/- Whole arrays of bools read, laid and handed back. -/
namespace Go.Proofs.YtbifjokfnahiaabGreatDoor.Gl
open Go.RowKit

/-- A whole array of bools read out of its block. -/
theorem wpList_load_LA {P : Program} {ops : Array Oper} {rest : List Oper} {o : Oper} {a : Act} {w : World} {Q : Exit → Act → World → Prop} (t : TypeId) (n k : Nat) (e : TypeId) (hgd : o.guard = none) (x : Operand) (ho : o.op = .load t x)
    (g : Nat) (hx : a.eval x = .pointer (some ⟨g, 0, none⟩)) (hu : P.underlying t = some (.array k e)) (hi : (P.info? t).map (·.size) = some n) (f : Nat → Bool) (t' : TypeId) (hg : w.heap[g]? = some (.cells (LA n f) t' (0, 0)))
    (h : wpList P ops Q rest (a.put o.dst (.agg (LA n f))) w) : wpList P ops Q (o :: rest) a w :=
  wpList_load_row hgd t x ho g hx t' (LA n f) (0, 0) _ hg hu rfl (by rw [LA_size]; exact hi) h

/-- A whole array of bools laid into a block that holds as many. -/
theorem wpList_store_LA {P : Program} {ops : Array Oper} {rest : List Oper} {o : Oper} {a : Act} {w : World} {Q : Exit → Act → World → Prop} (t : TypeId) (n : Nat) (hgd : o.guard = none) (x y : Operand) (ho : o.op = .store t x y)
    (g : Nat) (hx : a.eval x = .pointer (some ⟨g, 0, none⟩)) (f : Nat → Bool) (hy : a.eval y = .agg (LA n f)) (hi : (P.info? t).map (·.size) = some n) (f' : Nat → Bool) (t' : TypeId) (hg : w.heap[g]? = some (.cells (LA n f') t' (0, 0)))
    (h : wpList P ops Q rest (a.put o.dst undef) (w.setRow g (LA n f))) : wpList P ops Q (o :: rest) a w :=
  wpList_store_row hgd t x y ho g (LA n f) hx hy t' (LA n f') hg (by rw [LA_size]; exact hi) (by rw [LA_size, LA_size]) (LA_one _ _) h

/-- The result that lies in a block of bools. -/
theorem results_LA {P : Program} {fn : Func} {p : Tmp} {t : TypeId} (n k : Nat) (e : TypeId) (h : fn.results = #[.cell p t]) (tmps : Array Value) (w : World) (g : Nat) (f : Nat → Bool) (t' : TypeId)
    (hp : tmps.getD p undef = .pointer (some ⟨g, 0, none⟩)) (hg : w.heap[g]? = some (.cells (LA n f) t' (0, 0)))
    (hu : P.underlying t = some (.array k e)) (hi : (P.info? t).map (·.size) = some n) :
    (results fn tmps).run P w = .ok (.agg (LA n f)) w :=
  results_cell_row h tmps w g t' (LA n f) (0, 0) _ hp hg hu rfl (by rw [LA_size]; exact hi)

theorem heap_setRow_same {w : World} {g : Nat} {cs : Array Value} {t : TypeId} (cs' : Array Value) (h : w.heap[g]? = some (.cells cs t (0, 0))) : (w.setRow g cs').heap[g]? = some (.cells cs' t (0, 0)) := setRow_heap w g cs cs' t (0, 0) h
theorem LA_at (n : Nat) (f : Nat → Bool) (i : Nat) (h : i < (LA n f).size) : (LA n f)[i] = .bool (f i) := by
  have := LA_get n f i (by rw [LA_size] at h; exact h)
  rw [Array.getElem?_eq_getElem h] at this
  exact Option.some.inj this
end Go.Proofs.YtbifjokfnahiaabGreatDoor.Gl

/- Walks of glob.only and glob.others. -/
namespace Go.Proofs.YtbifjokfnahiaabGreatDoor.Gl
open Go.RowKit
attribute [local go_sem] LA_set LA_get LA_size LA_at

set_option maxRecDepth 10000 in
theorem only_any (b : Nat) (hb : b < 256) (w : World) :
    Calls Tryz.prog 80 #[.int .u8 b] w fun e w' => e = .returned (.agg (LA 256 (upd (fun _ => false) b true))) ∧ Below w.heap.size w w' := by
  have ha := zv_like
  go_enter Tryz.func80, Tryz.ntmps80
  go_wp2_with (first
    | (refine wpList_load_LA 116 256 256 4 rfl _ rfl ?g ?hx Tryz.underlying116 size_like (upd (fun _ => false) b true) 116 ?hg ?h; (case g => exact w.heap.size + 1); (case hx => rfl); (case hg => with_reducible exact heap_alloc2_new _ _ _))
    | (refine wpList_store_LA 116 256 rfl _ _ rfl ?g2 ?hx2 (upd (fun _ => false) b true) ?hy2 size_like (fun _ => false) 116 ?hg2 ?h2; (case g2 => exact w.heap.size); (case hx2 => rfl); (case hy2 => rfl); (case hg2 => with_reducible exact heap_alloc2_old _ _ _))
    | (refine bodyPost_ret (results_LA 256 256 4 rfl _ _ w.heap.size _ 116 rfl (heap_setRow_same _ (heap_alloc2_old _ _ _)) Tryz.underlying116 size_like) rfl ⟨rfl, ?hb⟩; exact below_setRow (((Below.refl _ _).alloc (Nat.le_refl _) _).alloc (by simp) _) (Nat.le_refl _) _))

/-- What the rounds of 'others' have turned so far. -/
def turned (f : Nat → Bool) (k : Nat) : Nat → Bool := fun i => if i < k then !f i else f i
theorem turned_zero (f : Nat → Bool) : turned f 0 = f := by funext i; simp [turned]
theorem turned_succ (f : Nat → Bool) (k : Nat) : upd (turned f k) k (!f k) = turned f (k + 1) := by
  funext i
  simp only [upd, turned]
  by_cases h : i = k
  · subst h; simp
  · by_cases h2 : i < k
    · simp [h, h2, show i < k + 1 by omega]
    · simp [h, h2, show ¬ i < k + 1 by omega]
theorem turned_all (f : Nat → Bool) : LA 256 (turned f 256) = LA 256 fun i => !f i := LA_congr _ _ _ fun i h => by simp [turned, h]

set_option maxRecDepth 10000 in
theorem others_any (f : Nat → Bool) (w : World) :
    Calls Tryz.prog 79 #[.agg (LA 256 f)] w fun e w' => e = .returned (.agg (LA 256 fun i => !f i)) ∧ Below w.heap.size w w' := by
  have ha := zv_like
  go_enter Tryz.func79, Tryz.ntmps79
  go_wp2_with fail
  go_loopw [4] (fun i w' => ∃ k : Nat, k ≤ 256 ∧ i = .int .i64 k ∧ w' = (w.alloc (.cells (LA 256 (turned f k)) 116)).alloc (.cells (LA 256 fun _ => false) 116)) (fun i _ => 256 - (intOf i).toNat)
  case atStart => exact ⟨0, by omega, rfl, by rw [turned_zero]⟩
  case round =>
    obtain ⟨k, hk, rfl, rfl⟩ := hrel
    by_cases hlt : k < 256
    · have hf : turned f k k = f k := by simp [turned]
      go_wp2_with fail
      go_roundw
      case rel => exact ⟨k + 1, by omega, by go_num, by rw [turned_succ]⟩
      case measure => simp [intOf]; omega
    · have e : k = 256 := by omega
      have He := hide e
      clear e
      go_wp2_with (first
        | (refine wpList_load_LA 116 256 256 4 rfl _ rfl ?g ?hx Tryz.underlying116 size_like (turned f k) 116 ?hg ?h; (case g => exact w.heap.size); (case hx => rfl); (case hg => with_reducible exact heap_alloc2_old _ _ _))
        | (refine wpList_store_LA 116 256 rfl _ _ rfl ?g2 ?hx2 (turned f k) ?hy2 size_like (fun _ => false) 116 ?hg2 ?h2; (case g2 => exact w.heap.size + 1); (case hx2 => rfl); (case hy2 => rfl); (case hg2 => with_reducible exact heap_alloc2_new _ _ _))
        | (refine bodyPost_ret (results_LA 256 256 4 rfl _ _ (w.heap.size + 1) _ 116 rfl (heap_setRow_same _ (heap_alloc2_new _ _ _)) Tryz.underlying116 size_like) rfl ⟨?he, ?hb⟩; (case he => rw [He.out, turned_all]); (case hb => exact below_setRow (((Below.refl _ _).alloc (Nat.le_refl _) _).alloc (by simp) _) (by omega) _)))
end Go.Proofs.YtbifjokfnahiaabGreatDoor.Gl

/- Walks of glob.member and glob.escaped. -/
namespace Go.Proofs.YtbifjokfnahiaabGreatDoor.Gl
open Go.RowKit

/-- The byte at a place; nought behind the end. -/
def byteAt (s : ByteArray) (i : Nat) : Nat := (s.data.toList.getD i 0).toNat
theorem byteAt_lt (s : ByteArray) (i : Nat) : byteAt s i < 256 := (s.data.toList.getD i 0).toNat_lt
theorem byteAt_eq (s : ByteArray) (i : Nat) (h : i < s.size) : s[i].toNat = byteAt s i := by
  unfold byteAt
  rw [List.getD_eq_getElem?_getD, List.getElem?_eq_getElem (by rw [← Lib.size_eq]; exact h)]
  rfl

def memberN (n b0 b1 b2 : Nat) : Nat :=
  if nameB b0 = true then (if n < 2 then 1 else if b1 = 45 then (if n < 3 then 0 else if nameB b2 = true then (if b2 < b0 then 0 else 3) else 0) else 1) else 0

set_option maxHeartbeats 400000 in
theorem member_any (s : ByteArray) (hs : 0 < s.size) (hz : s.size ≤ 1000) (w : World) :
    Calls Tryz.prog 107 #[.string s] w fun e w' => e = .returned (.int .i64 (memberN s.size (byteAt s 0) (byteAt s 1) (byteAt s 2))) ∧ ∃ n, w' = w.drewN n := by
  have e0 := byteAt_eq s 0 hs
  unfold memberN
  by_cases n0 : nameB (byteAt s 0) = true
  · rw [if_pos n0]
    by_cases h2 : s.size < 2
    · rw [if_pos h2]
      go_enter Tryz.func107, Tryz.ntmps107
      go_wp2_with (go_at_call 120; refine (isName_any _ _).mono ?_; rintro e w' ⟨rfl, rfl⟩)
      go_ret
      exact ⟨rfl, 0, rfl⟩
    · rw [if_neg h2]
      have e1 := byteAt_eq s 1 (by omega)
      by_cases h1 : byteAt s 1 = 45
      · rw [if_pos h1]
        have b1 : (((byteAt s 1 : Nat) : Int) != 45) = false := by simp [h1]
        have H1 := hide h1
        clear h1
        by_cases h3 : s.size < 3
        · rw [if_pos h3]
          have d3 : decide ((s.size : Int) < 3) = true := by simp; omega
          go_enter Tryz.func107, Tryz.ntmps107
          go_wp2_with (go_at_call 120; refine (isName_any _ _).mono ?_; rintro e w' ⟨rfl, rfl⟩)
          go_quiet (fail)
          go_wp2
          go_ret
          exact ⟨rfl, _, rfl⟩
        · rw [if_neg h3]
          have e2 := byteAt_eq s 2 (by omega)
          have d3 : decide ((s.size : Int) < 3) = false := by simp; omega
          by_cases n2 : nameB (byteAt s 2) = true
          · rw [if_pos n2]
            by_cases hlt : byteAt s 2 < byteAt s 0
            · rw [if_pos hlt]
              have dl : decide ((byteAt s 2 : Int) < (byteAt s 0 : Int)) = true := by simp; omega
              go_enter Tryz.func107, Tryz.ntmps107
              go_wp2_with (go_at_call 120; refine (isName_any _ _).mono ?_; rintro e w' ⟨rfl, rfl⟩)
              go_quiet ((go_at_call 120; exact Calls.quiet_of_same (isName_any _ _)))
              go_wp2
              go_ret
              exact ⟨rfl, _, rfl⟩
            · rw [if_neg hlt]
              have dl : decide ((byteAt s 2 : Int) < (byteAt s 0 : Int)) = false := by simp; omega
              go_enter Tryz.func107, Tryz.ntmps107
              go_wp2_with (go_at_call 120; refine (isName_any _ _).mono ?_; rintro e w' ⟨rfl, rfl⟩)
              go_quiet ((go_at_call 120; exact Calls.quiet_of_same (isName_any _ _)))
              go_wp2
              go_ret
              exact ⟨rfl, _, rfl⟩
          · rw [if_neg n2]
            have n2' : nameB (byteAt s 2) = false := by simpa using n2
            clear n2
            go_enter Tryz.func107, Tryz.ntmps107
            go_wp2_with (go_at_call 120; refine (isName_any _ _).mono ?_; rintro e w' ⟨rfl, rfl⟩)
            go_quiet ((go_at_call 120; exact Calls.quiet_of_same (isName_any _ _)))
            go_wp2
            go_ret
            exact ⟨rfl, _, rfl⟩
      · rw [if_neg h1]
        have b1 : (((byteAt s 1 : Nat) : Int) != 45) = true := by rw [bne_iff_ne]; omega
        go_enter Tryz.func107, Tryz.ntmps107
        go_wp2_with (go_at_call 120; refine (isName_any _ _).mono ?_; rintro e w' ⟨rfl, rfl⟩)
        go_ret
        exact ⟨rfl, 0, rfl⟩
  · rw [if_neg n0]
    have n0' : nameB (byteAt s 0) = false := by simpa using n0
    clear n0
    go_enter Tryz.func107, Tryz.ntmps107
    go_wp2_with (go_at_call 120; refine (isName_any _ _).mono ?_; rintro e w' ⟨rfl, rfl⟩)
    go_ret
    exact ⟨rfl, 0, rfl⟩
end Go.Proofs.YtbifjokfnahiaabGreatDoor.Gl

/- What glob.class, escaped, first and parse compute, as plain functions of bytes. -/
namespace Go.Proofs.YtbifjokfnahiaabGreatDoor.Gl
open Go.RowKit

/-- 'f' and all from lo to hi. -/
def addRange (f : Nat → Bool) (lo hi : Nat) : Nat → Bool := fun i => f i || (decide (lo ≤ i) && decide (i ≤ hi))
/-- .. so far as the inner loop has come. -/
def addTo (f : Nat → Bool) (lo hi k : Nat) : Nat → Bool := fun i => f i || (decide (i < k) && (decide (lo ≤ i) && decide (i ≤ hi)))
theorem addTo_zero (f : Nat → Bool) (lo hi : Nat) : addTo f lo hi 0 = f := by funext i; simp [addTo]
theorem addTo_yes (f : Nat → Bool) (lo hi k : Nat) (h1 : lo ≤ k) (h2 : k ≤ hi) : upd (addTo f lo hi k) k true = addTo f lo hi (k + 1) := by
  funext i
  simp only [upd, addTo]
  by_cases h : i = k
  · subst h; simp [h1, h2]
  · have e : decide (i < k + 1) = decide (i < k) := by rw [decide_eq_decide]; omega
    simp [h, e]
theorem addTo_no (f : Nat → Bool) (lo hi k : Nat) (h : ¬ (lo ≤ k ∧ k ≤ hi)) : addTo f lo hi k = addTo f lo hi (k + 1) := by
  funext i
  simp only [addTo]
  by_cases hi' : i = k
  · subst hi'
    have : (decide (lo ≤ i) && decide (i ≤ hi)) = false := by
      rw [Bool.and_eq_false_iff]; simp only [decide_eq_false_iff_not]; omega
    simp [this]
  · have e : decide (i < k + 1) = decide (i < k) := by rw [decide_eq_decide]; omega
    rw [e]
theorem addTo_all (f : Nat → Bool) (lo hi : Nat) (h : hi < 256) : addTo f lo hi 256 = addRange f lo hi := by
  funext i
  simp only [addTo, addRange]
  by_cases h1 : i ≤ hi
  · simp [show i < 256 by omega]
  · simp [h1]

/-- How many bytes the member at a place has: nought, if none stands there. -/
def memberAt (s : ByteArray) (at' : Nat) : Nat := memberN (s.size - at') (byteAt s at') (byteAt s (at' + 1)) (byteAt s (at' + 2))

/-- The members of a class, from a place on, till a ']' or the end. -/
def scan : Nat → ByteArray → Nat → (Nat → Bool) → Option (Nat × (Nat → Bool))
  | 0, _, _, _ => none
  | k + 1, s, a, f =>
    if a < s.size ∧ byteAt s a ≠ 93 then
      (if memberAt s a = 0 then none else scan k s (a + memberAt s a) (addRange f (byteAt s a) (byteAt s (a + memberAt s a - 1))))
    else some (a, f)

theorem memberAt_le (s : ByteArray) (a : Nat) (h : a < s.size) : a + memberAt s a ≤ s.size ∧ memberAt s a ≤ 3 := by
  unfold memberAt memberN
  repeat' split
  all_goals omega

def notB (s : ByteArray) : Bool := decide (1 < s.size) && byteAt s 1 == 33
def classBegin (s : ByteArray) : Nat := if notB s = true then 2 else 1
/-- What comes of the members: nothing, where there are none or no ']'. -/
def classFin (nb : Bool) (B size : Nat) : Option (Nat × (Nat → Bool)) → Option ((Nat → Bool) × Nat)
  | none => none
  | some (a, f) => if a = B ∨ a = size then none else some (upd (if nb = true then fun i => !f i else f) 47 false, a + 1)
/-- What a class is like, and how many bytes it has. -/
def classR (s : ByteArray) : Option ((Nat → Bool) × Nat) := classFin (notB s) (classBegin s) s.size (scan (s.size + 1) s (classBegin s) fun _ => false)

theorem byteAt_extract (s : ByteArray) (a i : Nat) (_h : a ≤ s.size) : byteAt (s.extract a s.size) i = byteAt s (a + i) := by
  unfold byteAt
  rw [Lib.extract_data]
  simp only [List.getD_eq_getElem?_getD]
  congr 2
  rw [List.take_of_length_le (by simp only [List.length_drop, Lib.size_eq]; omega), List.getElem?_drop]
theorem size_extract (s : ByteArray) (a : Nat) : (s.extract a s.size).size = s.size - a := by simp

theorem hasPrefix_one (s : ByteArray) (c : UInt8) : Lib.hasPrefix s.data.toList [c] = (decide (0 < s.size) && byteAt s 0 == c.toNat) := by
  unfold byteAt
  rw [Lib.size_eq]
  cases h : s.data.toList with
  | nil => simp [Lib.hasPrefix]
  | cons a l =>
    simp only [Lib.hasPrefix, List.isPrefixOf, List.getD_cons_zero, List.length_cons]
    rw [Bool.eq_iff_iff]
    simp only [Bool.and_true, beq_iff_eq, Nat.zero_lt_succ, decide_true, Bool.true_and, ← UInt8.toNat_inj]
    exact ⟨fun h => h.symm, fun h => h.symm⟩

theorem hasPrefix_not (s : ByteArray) (h : 1 ≤ s.size) : Lib.hasPrefix (s.extract 1 s.size).data.toList [33] = notB s := by
  rw [hasPrefix_one, byteAt_extract s 1 0 h, size_extract]
  unfold notB
  congr 1
  rw [decide_eq_decide]; omega
end Go.Proofs.YtbifjokfnahiaabGreatDoor.Gl

/- The composite literals of a part, as the table of types gives them. -/
namespace Go.Proofs.YtbifjokfnahiaabGreatDoor.Gl
open Go.RowKit
/-- A composite literal of one part. -/
theorem wpList_build_one {P : Program} {ops : Array Oper} {rest : List Oper} {o : Oper} {a : Act} {w : World} {Q : Exit → Act → World → Prop} (hg : o.guard = none) (t : TypeId) (i : Nat) (x : Operand) (ho : o.op = .build t #[(i, x)])
    (v : Value) (hx : a.eval x = v) (cells : Array Value) (hf : P.built t [(i, v)] = some cells) (h : wpList P ops Q rest (a.put o.dst (.agg cells)) w) : wpList P ops Q (o :: rest) a w :=
  wpList_buildTo hg t #[(i, x)] ho _ rfl cells (by simpa [hx] using hf) h
/-- .. of two parts. -/
theorem wpList_build_two {P : Program} {ops : Array Oper} {rest : List Oper} {o : Oper} {a : Act} {w : World} {Q : Exit → Act → World → Prop} (hg : o.guard = none) (t : TypeId) (i j : Nat) (x y : Operand) (ho : o.op = .build t #[(i, x), (j, y)])
    (v u : Value) (hx : a.eval x = v) (hy : a.eval y = u) (cells : Array Value) (hf : P.built t [(i, v), (j, u)] = some cells) (h : wpList P ops Q rest (a.put o.dst (.agg cells)) w) : wpList P ops Q (o :: rest) a w :=
  wpList_buildTo hg t #[(i, x), (j, y)] ho _ rfl cells (by simpa [hx, hy] using hf) h
theorem built_part0 : Tryz.prog.built 118 [] = some (LA 257 fun _ => false) := by rw [LA_eq]; kernel_rfl
theorem built_part1 (f : Nat → Bool) : Tryz.prog.built 118 [(0, .agg (LA 256 f))] = some (LA 257 (PF f false)) := by rw [LA_eq, LA_eq]; kernel_rfl
theorem built_part2 (f : Nat → Bool) (m : Bool) : Tryz.prog.built 118 [(0, .agg (LA 256 f)), (1, .bool m)] = some (LA 257 (PF f m)) := by rw [LA_eq, LA_eq]; kernel_rfl
theorem built_like0 : Tryz.prog.built 116 [] = some (LA 256 fun _ => false) := by rw [LA_eq]; kernel_rfl
end Go.Proofs.YtbifjokfnahiaabGreatDoor.Gl
