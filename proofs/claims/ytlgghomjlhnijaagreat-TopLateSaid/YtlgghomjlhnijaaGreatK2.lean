/- The walk of glob.first. -/
import Derived.Test.YtlgghomjlhnijaaGreatK1
import Derived.Lib.ParseIntB
import Derived.Lib.Split
import Derived.Lib.TrimByte
namespace Go.Proofs.YtlgghomjlhnijaaGreat.Gl
open Go.RowKit
attribute [local go_sem] LA_set LA_get LA_size LA_at

def starsB (s : ByteArray) : Bool := decide (2 ≤ s.size) && byteAt s 0 == 42 && byteAt s 1 == 42
def notF (f : Nat → Bool) : Nat → Bool := fun i => !f i
def classP (s : ByteArray) : Option ((Nat → Bool) × Bool × Nat) := (classR s).map fun x => (x.1, false, x.2)
theorem classV_eq (s : ByteArray) : classV s = partV (classP s) := by
  unfold classV classP
  cases classR s with
  | none => rfl
  | some x => rfl

/-- The part that a text begins with. -/
def firstR (s : ByteArray) : Option ((Nat → Bool) × Bool × Nat) :=
  if starsB s = true then some (notF fun _ => false, true, 2)
  else if byteAt s 0 = 42 then some (notF (onlyF 47), true, 1)
  else if byteAt s 0 = 63 then some (notF (onlyF 47), false, 1)
  else if byteAt s 0 = 91 then classP s
  else if byteAt s 0 = 92 then escR s
  else if plainB (byteAt s 0) = true then some (onlyF (byteAt s 0), false, 1)
  else none

theorem hasPrefix_two (s : ByteArray) : Lib.hasPrefix s.data.toList [42, 42] = starsB s := by
  unfold starsB byteAt
  rw [Lib.size_eq]
  cases h : s.data.toList with
  | nil => simp [Lib.hasPrefix]
  | cons a l =>
    cases l with
    | nil => simp [Lib.hasPrefix, List.isPrefixOf]
    | cons b l =>
      simp only [Lib.hasPrefix, List.isPrefixOf, List.getD_cons_zero, List.getD_cons_succ, List.length_cons]
      rw [Bool.eq_iff_iff]
      simp only [Bool.and_true, Bool.and_eq_true, beq_iff_eq, decide_eq_true_eq, ← UInt8.toNat_inj]
      constructor
      · rintro ⟨h1, h2⟩
        exact ⟨⟨by omega, h1.symm⟩, h2.symm⟩
      · rintro ⟨⟨_, h1⟩, h2⟩
        exact ⟨h1.symm, h2.symm⟩

theorem prefix_stars (s : ByteArray) (w : World) :
    Calls Tryz.prog 85 #[.string s, .string ⟨#[42, 42]⟩] w fun e w' => e = .returned (.bool (starsB s)) ∧ w' = w :=
  (strings_HasPrefix s ⟨#[42, 42]⟩ w).mono fun e w' ⟨he, hw⟩ => ⟨by rw [he]; exact ret_bool (hasPrefix_two s), hw⟩

/-- Two calls, one behind the other, over the block of the part. -/
theorem PW_two {w W V : World} (h : Below (PW w).heap.size (PW w) W) (k : Below W.heap.size W V) : Below (PW w).heap.size (PW w) V := h.trans (k.mono h.size)

set_option maxRecDepth 10000 in
set_option maxHeartbeats 400000 in
theorem first_stars (s : ByteArray) (hs : 1 ≤ s.size) (hz : s.size ≤ 1000) (st : starsB s = true) (w : World) :
    Calls Tryz.prog 79 #[.string s] w fun e w' => e = .returned (partV (firstR s)) ∧ Below w.heap.size w w' := by
  have hR : firstR s = some (notF fun _ => false, true, 2) := by unfold firstR; rw [if_pos st]
  have HR := hide hR
  clear hR
  have zp := zv_part
  have e0 := byteAt_eq s 0 (by omega)
  have b0 := byteAt_lt s 0
  have zl := zv_like
  go_enter Tryz.func79, Tryz.ntmps79
  go_wp2_with (first
    | (go_at_call 85; refine (prefix_stars s _).mono ?_; rintro e w' ⟨rfl, rfl⟩)
    | (go_at_call 86; refine (others_any (fun _ => false) _).mono ?_; rintro e W ⟨rfl, hW⟩)
    | (refine wpList_build_two rfl 155 _ _ _ _ rfl (.agg (LA 256 (notF fun _ => false))) (.bool true) ?_ ?_ _ (built_part2 _ _) ?_; (· rfl); (· rfl))
    | (refine wpList_store_LA 155 257 rfl _ _ rfl w.heap.size ?_ (PF (notF fun _ => false) true) ?_ size_part (fun _ => false) 155 ?_ ?_; (· rfl); (· rfl); (· exact PW_later hW))
    | (refine bodyPost_ret (results_part rfl _ _ w.heap.size (PF (notF fun _ => false) true) (.int .i64 2) 155 rfl rfl (heap_setRow_same _ (PW_later hW))) rfl ⟨?_, ?_⟩; (· rw [HR.out]; rfl); (· exact below_setRow (PW_belowLater hW) (Nat.le_refl _) _)))

set_option maxRecDepth 10000 in
set_option maxHeartbeats 400000 in
theorem first_star (s : ByteArray) (hs : 1 ≤ s.size) (hz : s.size ≤ 1000) (st : starsB s = false)  (h42 : byteAt s 0 = 42) (w : World) :
    Calls Tryz.prog 79 #[.string s] w fun e w' => e = .returned (partV (firstR s)) ∧ Below w.heap.size w w' := by
  have hR : firstR s = some (notF (onlyF 47), true, 1) := by unfold firstR; rw [if_neg (by rw [st]; simp)]; rw [if_pos h42]
  have HR := hide hR
  clear hR
  have zp := zv_part
  have e0 := byteAt_eq s 0 (by omega)
  have b0 := byteAt_lt s 0
  have c42 : ((byteAt s 0 : Int) == 42) = true := by rw [beq_iff_eq]; omega
  clear h42
  go_enter Tryz.func79, Tryz.ntmps79
  go_wp2_with (first
    | (go_at_call 85; refine (prefix_stars s _).mono ?_; rintro e w' ⟨rfl, rfl⟩)
    | (go_at_call 87; refine (only_any 47 (by omega) _).mono ?_; rintro e W ⟨rfl, hW⟩)
    | (go_at_call 86; refine (others_any (onlyF 47) _).mono ?_; rintro e V ⟨rfl, hV⟩)
    | (refine wpList_build_two rfl 155 _ _ _ _ rfl (.agg (LA 256 (notF (onlyF 47)))) (.bool true) ?_ ?_ _ (built_part2 _ _) ?_; (· rfl); (· rfl))
    | (refine wpList_store_LA 155 257 rfl _ _ rfl w.heap.size ?_ (PF (notF (onlyF 47)) true) ?_ size_part (fun _ => false) 155 ?_ ?_; (· rfl); (· rfl); (· exact PW_later (PW_two hW hV)))
    | (refine bodyPost_ret (results_part rfl _ _ w.heap.size (PF (notF (onlyF 47)) true) (.int .i64 1) 155 rfl rfl (heap_setRow_same _ (PW_later (PW_two hW hV)))) rfl ⟨?_, ?_⟩; (· rw [HR.out]; rfl); (· exact below_setRow (PW_belowLater (PW_two hW hV)) (Nat.le_refl _) _)))

set_option maxRecDepth 10000 in
set_option maxHeartbeats 400000 in
theorem first_quest (s : ByteArray) (hs : 1 ≤ s.size) (hz : s.size ≤ 1000) (st : starsB s = false) (n42 : byteAt s 0 ≠ 42) (h63 : byteAt s 0 = 63) (w : World) :
    Calls Tryz.prog 79 #[.string s] w fun e w' => e = .returned (partV (firstR s)) ∧ Below w.heap.size w w' := by
  have hR : firstR s = some (notF (onlyF 47), false, 1) := by unfold firstR; rw [if_neg (by rw [st]; simp)]; rw [if_neg n42, if_pos h63]
  have HR := hide hR
  clear hR
  have zp := zv_part
  have e0 := byteAt_eq s 0 (by omega)
  have b0 := byteAt_lt s 0
  have c42 : ((byteAt s 0 : Int) == 42) = false := by rw [beq_eq_false_iff_ne]; omega
  have c63 : ((byteAt s 0 : Int) == 63) = true := by rw [beq_iff_eq]; omega
  clear h63
  go_enter Tryz.func79, Tryz.ntmps79
  go_wp2_with (first
    | (go_at_call 85; refine (prefix_stars s _).mono ?_; rintro e w' ⟨rfl, rfl⟩)
    | (go_at_call 87; refine (only_any 47 (by omega) _).mono ?_; rintro e W ⟨rfl, hW⟩)
    | (go_at_call 86; refine (others_any (onlyF 47) _).mono ?_; rintro e V ⟨rfl, hV⟩)
    | (refine wpList_build_one rfl 155 _ _ rfl (.agg (LA 256 (notF (onlyF 47)))) ?_ _ (built_part1 _) ?_; (· rfl))
    | (refine wpList_store_LA 155 257 rfl _ _ rfl w.heap.size ?_ (PF (notF (onlyF 47)) false) ?_ size_part (fun _ => false) 155 ?_ ?_; (· rfl); (· rfl); (· exact PW_later (PW_two hW hV)))
    | (refine bodyPost_ret (results_part rfl _ _ w.heap.size (PF (notF (onlyF 47)) false) (.int .i64 1) 155 rfl rfl (heap_setRow_same _ (PW_later (PW_two hW hV)))) rfl ⟨?_, ?_⟩; (· rw [HR.out]; rfl); (· exact below_setRow (PW_belowLater (PW_two hW hV)) (Nat.le_refl _) _)))

set_option maxRecDepth 10000 in
set_option maxHeartbeats 400000 in
theorem first_class_none (s : ByteArray) (hs : 1 ≤ s.size) (hz : s.size ≤ 1000) (st : starsB s = false) (n42 : byteAt s 0 ≠ 42) (n63 : byteAt s 0 ≠ 63) (h91 : byteAt s 0 = 91) (hP : classP s = none) (w : World) :
    Calls Tryz.prog 79 #[.string s] w fun e w' => e = .returned (partV (firstR s)) ∧ Below w.heap.size w w' := by
  have hR : firstR s = none := by unfold firstR; rw [if_neg (by rw [st]; simp)]; rw [if_neg n42, if_neg n63, if_pos h91]; exact hP
  have HR := hide hR
  clear hR
  have zp := zv_part
  have e0 := byteAt_eq s 0 (by omega)
  have b0 := byteAt_lt s 0
  have c42 : ((byteAt s 0 : Int) == 42) = false := by rw [beq_eq_false_iff_ne]; omega
  have c63 : ((byteAt s 0 : Int) == 63) = false := by rw [beq_eq_false_iff_ne]; omega
  have c91 : ((byteAt s 0 : Int) == 91) = true := by rw [beq_iff_eq]; omega
  clear h91
  have HV := hide (show classV s = .tuple #[.agg (LA 257 (fun _ => false)), .int .i64 0] from by rw [classV_eq, hP]; rfl)
  clear hP
  go_enter Tryz.func79, Tryz.ntmps79
  go_wp2_with (first
    | (go_at_call 85; refine (prefix_stars s _).mono ?_; rintro e w' ⟨rfl, rfl⟩)
    | (go_at_call 88; refine (class_any s hs hz _).mono ?_; rintro e W ⟨rfl, hW⟩; rw [HV.out])
    | (refine wpList_store_LA 155 257 rfl _ _ rfl w.heap.size ?_ (fun _ => false) ?_ size_part (fun _ => false) 155 ?_ ?_; (· rfl); (· rfl); (· exact PW_later hW))
    | (refine bodyPost_ret (results_part rfl _ _ w.heap.size (fun _ => false) (.int .i64 0) 155 rfl rfl (heap_setRow_same _ (PW_later hW))) rfl ⟨?_, ?_⟩; (· rw [HR.out]; rfl); (· exact below_setRow (PW_belowLater hW) (Nat.le_refl _) _)))

set_option maxRecDepth 10000 in
set_option maxHeartbeats 400000 in
theorem first_class_some (s : ByteArray) (hs : 1 ≤ s.size) (hz : s.size ≤ 1000) (st : starsB s = false) (n42 : byteAt s 0 ≠ 42) (n63 : byteAt s 0 ≠ 63) (h91 : byteAt s 0 = 91) (f : Nat → Bool) (m : Bool) (n : Nat) (hP : classP s = some (f, m, n)) (w : World) :
    Calls Tryz.prog 79 #[.string s] w fun e w' => e = .returned (partV (firstR s)) ∧ Below w.heap.size w w' := by
  have hR : firstR s = some (f, m, n) := by unfold firstR; rw [if_neg (by rw [st]; simp)]; rw [if_neg n42, if_neg n63, if_pos h91]; exact hP
  have HR := hide hR
  clear hR
  have zp := zv_part
  have e0 := byteAt_eq s 0 (by omega)
  have b0 := byteAt_lt s 0
  have c42 : ((byteAt s 0 : Int) == 42) = false := by rw [beq_eq_false_iff_ne]; omega
  have c63 : ((byteAt s 0 : Int) == 63) = false := by rw [beq_eq_false_iff_ne]; omega
  have c91 : ((byteAt s 0 : Int) == 91) = true := by rw [beq_iff_eq]; omega
  clear h91
  have HV := hide (show classV s = .tuple #[.agg (LA 257 (PF f m)), .int .i64 n] from by rw [classV_eq, hP]; rfl)
  clear hP
  go_enter Tryz.func79, Tryz.ntmps79
  go_wp2_with (first
    | (go_at_call 85; refine (prefix_stars s _).mono ?_; rintro e w' ⟨rfl, rfl⟩)
    | (go_at_call 88; refine (class_any s hs hz _).mono ?_; rintro e W ⟨rfl, hW⟩; rw [HV.out])
    | (refine wpList_store_LA 155 257 rfl _ _ rfl w.heap.size ?_ (PF f m) ?_ size_part (fun _ => false) 155 ?_ ?_; (· rfl); (· rfl); (· exact PW_later hW))
    | (refine bodyPost_ret (results_part rfl _ _ w.heap.size (PF f m) (.int .i64 n) 155 rfl rfl (heap_setRow_same _ (PW_later hW))) rfl ⟨?_, ?_⟩; (· rw [HR.out]; rfl); (· exact below_setRow (PW_belowLater hW) (Nat.le_refl _) _)))

set_option maxRecDepth 10000 in
set_option maxHeartbeats 400000 in
theorem first_esc_none (s : ByteArray) (hs : 1 ≤ s.size) (hz : s.size ≤ 1000) (st : starsB s = false) (n42 : byteAt s 0 ≠ 42) (n63 : byteAt s 0 ≠ 63) (n91 : byteAt s 0 ≠ 91) (h92 : byteAt s 0 = 92) (hP : escR s = none) (w : World) :
    Calls Tryz.prog 79 #[.string s] w fun e w' => e = .returned (partV (firstR s)) ∧ Below w.heap.size w w' := by
  have hR : firstR s = none := by unfold firstR; rw [if_neg (by rw [st]; simp)]; rw [if_neg n42, if_neg n63, if_neg n91, if_pos h92]; exact hP
  have HR := hide hR
  clear hR
  have zp := zv_part
  have e0 := byteAt_eq s 0 (by omega)
  have b0 := byteAt_lt s 0
  have c42 : ((byteAt s 0 : Int) == 42) = false := by rw [beq_eq_false_iff_ne]; omega
  have c63 : ((byteAt s 0 : Int) == 63) = false := by rw [beq_eq_false_iff_ne]; omega
  have c91 : ((byteAt s 0 : Int) == 91) = false := by rw [beq_eq_false_iff_ne]; omega
  have c92 : ((byteAt s 0 : Int) == 92) = true := by rw [beq_iff_eq]; omega
  clear h92
  have HV := hide (show partV (escR s) = .tuple #[.agg (LA 257 (fun _ => false)), .int .i64 0] from by rw [hP]; rfl)
  clear hP
  go_enter Tryz.func79, Tryz.ntmps79
  go_wp2_with (first
    | (go_at_call 85; refine (prefix_stars s _).mono ?_; rintro e w' ⟨rfl, rfl⟩)
    | (go_at_call 89; refine (escaped_any s hs hz _).mono ?_; rintro e W ⟨rfl, hW⟩; rw [HV.out])
    | (refine wpList_store_LA 155 257 rfl _ _ rfl w.heap.size ?_ (fun _ => false) ?_ size_part (fun _ => false) 155 ?_ ?_; (· rfl); (· rfl); (· exact PW_later hW))
    | (refine bodyPost_ret (results_part rfl _ _ w.heap.size (fun _ => false) (.int .i64 0) 155 rfl rfl (heap_setRow_same _ (PW_later hW))) rfl ⟨?_, ?_⟩; (· rw [HR.out]; rfl); (· exact below_setRow (PW_belowLater hW) (Nat.le_refl _) _)))

set_option maxRecDepth 10000 in
set_option maxHeartbeats 400000 in
theorem first_esc_some (s : ByteArray) (hs : 1 ≤ s.size) (hz : s.size ≤ 1000) (st : starsB s = false) (n42 : byteAt s 0 ≠ 42) (n63 : byteAt s 0 ≠ 63) (n91 : byteAt s 0 ≠ 91) (h92 : byteAt s 0 = 92) (f : Nat → Bool) (m : Bool) (n : Nat) (hP : escR s = some (f, m, n)) (w : World) :
    Calls Tryz.prog 79 #[.string s] w fun e w' => e = .returned (partV (firstR s)) ∧ Below w.heap.size w w' := by
  have hR : firstR s = some (f, m, n) := by unfold firstR; rw [if_neg (by rw [st]; simp)]; rw [if_neg n42, if_neg n63, if_neg n91, if_pos h92]; exact hP
  have HR := hide hR
  clear hR
  have zp := zv_part
  have e0 := byteAt_eq s 0 (by omega)
  have b0 := byteAt_lt s 0
  have c42 : ((byteAt s 0 : Int) == 42) = false := by rw [beq_eq_false_iff_ne]; omega
  have c63 : ((byteAt s 0 : Int) == 63) = false := by rw [beq_eq_false_iff_ne]; omega
  have c91 : ((byteAt s 0 : Int) == 91) = false := by rw [beq_eq_false_iff_ne]; omega
  have c92 : ((byteAt s 0 : Int) == 92) = true := by rw [beq_iff_eq]; omega
  clear h92
  have HV := hide (show partV (escR s) = .tuple #[.agg (LA 257 (PF f m)), .int .i64 n] from by rw [hP]; rfl)
  clear hP
  go_enter Tryz.func79, Tryz.ntmps79
  go_wp2_with (first
    | (go_at_call 85; refine (prefix_stars s _).mono ?_; rintro e w' ⟨rfl, rfl⟩)
    | (go_at_call 89; refine (escaped_any s hs hz _).mono ?_; rintro e W ⟨rfl, hW⟩; rw [HV.out])
    | (refine wpList_store_LA 155 257 rfl _ _ rfl w.heap.size ?_ (PF f m) ?_ size_part (fun _ => false) 155 ?_ ?_; (· rfl); (· rfl); (· exact PW_later hW))
    | (refine bodyPost_ret (results_part rfl _ _ w.heap.size (PF f m) (.int .i64 n) 155 rfl rfl (heap_setRow_same _ (PW_later hW))) rfl ⟨?_, ?_⟩; (· rw [HR.out]; rfl); (· exact below_setRow (PW_belowLater hW) (Nat.le_refl _) _)))

set_option maxRecDepth 10000 in
set_option maxHeartbeats 400000 in
theorem first_plain (s : ByteArray) (hs : 1 ≤ s.size) (hz : s.size ≤ 1000) (st : starsB s = false) (n42 : byteAt s 0 ≠ 42) (n63 : byteAt s 0 ≠ 63) (n91 : byteAt s 0 ≠ 91) (n92 : byteAt s 0 ≠ 92) (hp : plainB (byteAt s 0) = true) (w : World) :
    Calls Tryz.prog 79 #[.string s] w fun e w' => e = .returned (partV (firstR s)) ∧ Below w.heap.size w w' := by
  have hR : firstR s = some (onlyF (byteAt s 0), false, 1) := by unfold firstR; rw [if_neg (by rw [st]; simp)]; rw [if_neg n42, if_neg n63, if_neg n91, if_neg n92, if_pos hp]
  have HR := hide hR
  clear hR
  have zp := zv_part
  have e0 := byteAt_eq s 0 (by omega)
  have b0 := byteAt_lt s 0
  have c42 : ((byteAt s 0 : Int) == 42) = false := by rw [beq_eq_false_iff_ne]; omega
  have c63 : ((byteAt s 0 : Int) == 63) = false := by rw [beq_eq_false_iff_ne]; omega
  have c91 : ((byteAt s 0 : Int) == 91) = false := by rw [beq_eq_false_iff_ne]; omega
  have c92 : ((byteAt s 0 : Int) == 92) = false := by rw [beq_eq_false_iff_ne]; omega
  go_enter Tryz.func79, Tryz.ntmps79
  go_wp2_with (first
    | (go_at_call 85; refine (prefix_stars s _).mono ?_; rintro e w' ⟨rfl, rfl⟩)
    | (go_at_call 90; refine (isPlain_any _ b0 _).mono ?_; rintro e w' ⟨rfl, rfl⟩)
    | (go_at_call 87; refine (only_any _ b0 _).mono ?_; rintro e W ⟨rfl, hW⟩)
    | (refine wpList_build_one rfl 155 _ _ rfl (.agg (LA 256 (onlyF (byteAt s 0)))) ?_ _ (built_part1 _) ?_; (· rfl))
    | (refine wpList_store_LA 155 257 rfl _ _ rfl w.heap.size ?_ (PF (onlyF (byteAt s 0)) false) ?_ size_part (fun _ => false) 155 ?_ ?_; (· rfl); (· rfl); (· exact PW_later hW))
    | (refine bodyPost_ret (results_part rfl _ _ w.heap.size (PF (onlyF (byteAt s 0)) false) (.int .i64 1) 155 rfl rfl (heap_setRow_same _ (PW_later hW))) rfl ⟨?_, ?_⟩; (· rw [HR.out]; rfl); (· exact below_setRow (PW_belowLater hW) (Nat.le_refl _) _)))

set_option maxRecDepth 10000 in
set_option maxHeartbeats 400000 in
theorem first_none (s : ByteArray) (hs : 1 ≤ s.size) (hz : s.size ≤ 1000) (st : starsB s = false) (n42 : byteAt s 0 ≠ 42) (n63 : byteAt s 0 ≠ 63) (n91 : byteAt s 0 ≠ 91) (n92 : byteAt s 0 ≠ 92) (hp : plainB (byteAt s 0) = false) (w : World) :
    Calls Tryz.prog 79 #[.string s] w fun e w' => e = .returned (partV (firstR s)) ∧ Below w.heap.size w w' := by
  have hR : firstR s = none := by unfold firstR; rw [if_neg (by rw [st]; simp)]; rw [if_neg n42, if_neg n63, if_neg n91, if_neg n92, if_neg (by rw [hp]; simp)]
  have HR := hide hR
  clear hR
  have zp := zv_part
  have e0 := byteAt_eq s 0 (by omega)
  have b0 := byteAt_lt s 0
  have c42 : ((byteAt s 0 : Int) == 42) = false := by rw [beq_eq_false_iff_ne]; omega
  have c63 : ((byteAt s 0 : Int) == 63) = false := by rw [beq_eq_false_iff_ne]; omega
  have c91 : ((byteAt s 0 : Int) == 91) = false := by rw [beq_eq_false_iff_ne]; omega
  have c92 : ((byteAt s 0 : Int) == 92) = false := by rw [beq_eq_false_iff_ne]; omega
  have bp0 := build_part0
  go_enter Tryz.func79, Tryz.ntmps79
  go_wp2_with (first
    | (go_at_call 85; refine (prefix_stars s _).mono ?_; rintro e w' ⟨rfl, rfl⟩)
    | (go_at_call 90; refine (isPlain_any _ b0 _).mono ?_; rintro e w' ⟨rfl, rfl⟩)
    | (refine wpList_store_LA 155 257 rfl _ _ rfl w.heap.size ?_ (fun _ => false) ?_ size_part (fun _ => false) 155 ?_ ?_; (· rfl); (· rfl); (· with_reducible exact heap_alloc_new _ _))
    | (refine bodyPost_ret (results_part rfl _ _ w.heap.size (fun _ => false) (.int .i64 0) 155 rfl rfl (heap_setRow_same _ (heap_alloc_new _ _))) rfl ⟨?_, ?_⟩; (· rw [HR.out]; rfl); (· exact below_setRow (PW_below w) (Nat.le_refl _) _)))

theorem first_any (s : ByteArray) (hs : 1 ≤ s.size) (hz : s.size ≤ 1000) (w : World) :
    Calls Tryz.prog 79 #[.string s] w fun e w' => e = .returned (partV (firstR s)) ∧ Below w.heap.size w w' := by
  cases st : starsB s
  · by_cases h42 : byteAt s 0 = 42
    · exact first_star s hs hz st h42 w
    · by_cases h63 : byteAt s 0 = 63
      · exact first_quest s hs hz st h42 h63 w
      · by_cases h91 : byteAt s 0 = 91
        · cases hP : classP s with
          | none => exact first_class_none s hs hz st h42 h63 h91 hP w
          | some x => obtain ⟨f, m, n⟩ := x; exact first_class_some s hs hz st h42 h63 h91 f m n hP w
        · by_cases h92 : byteAt s 0 = 92
          · cases hP : escR s with
            | none => exact first_esc_none s hs hz st h42 h63 h91 h92 hP w
            | some x => obtain ⟨f, m, n⟩ := x; exact first_esc_some s hs hz st h42 h63 h91 h92 f m n hP w
          · cases hp : plainB (byteAt s 0)
            · exact first_none s hs hz st h42 h63 h91 h92 hp w
            · exact first_plain s hs hz st h42 h63 h91 h92 hp w
  · exact first_stars s hs hz st w
end Go.Proofs.YtlgghomjlhnijaaGreat.Gl

/- Laws for the loop of glob.parse: a slice of parts of the call's own. -/
namespace Go.Proofs.YtlgghomjlhnijaaGreat.Gl
open Go.RowKit

abbrev Part := (Nat → Bool) × Bool
def flat (ps : List Part) : List Value := ps.flatMap fun p => (LA 257 (PF p.1 p.2)).toList
theorem flat_nil : flat [] = [] := rfl
theorem flat_snoc (ps : List Part) (p : Part) : flat (ps ++ [p]) = flat ps ++ (LA 257 (PF p.1 p.2)).toList := by simp [flat]
theorem flat_length (ps : List Part) : (flat ps).length = ps.length * 257 := by
  induction ps with
  | nil => rfl
  | cons p ps ih =>
    have : flat (p :: ps) = (LA 257 (PF p.1 p.2)).toList ++ flat ps := by simp [flat]
    rw [this, List.length_append, ih, Array.length_toList, LA_size, List.length_cons]
    omega

/-- A part read out of its block. -/
theorem wpList_load_part {ops : Array Oper} {rest : List Oper} {o : Oper} {a : Act} {w : World} {Q : Exit → Act → World → Prop} (hgd : o.guard = none) (x : Operand) (ho : o.op = .load 155 x)
    (g : Nat) (hx : a.eval x = .pointer (some ⟨g, 0, none⟩)) (f : Nat → Bool) (hg : w.heap[g]? = some (.cells (LA 257 f) 155 (0, 0)))
    (h : wpList Tryz.prog ops Q rest (a.put o.dst (.agg (LA 257 f))) w) : wpList Tryz.prog ops Q (o :: rest) a w :=
  wpList_load_row hgd 155 x ho g hx 155 (LA 257 f) (0, 0) _ hg Tryz.underlying155 rfl (by rw [LA_size]; exact size_part) h

theorem info_part : ∃ i, Tryz.prog.info? 155 = some i ∧ i.zero = some (.agg (LA 257 fun _ => false)) ∧ i.size = 257 ∧ i.bytes = 257 := by
  have hz := zero_part
  have hs := size_part
  have hb : (Tryz.prog.info? 155).map (·.bytes) = some 257 := by kernel_rfl
  cases hq : Tryz.prog.info? 155 with
  | none => rw [hq] at hs; simp at hs
  | some i =>
    rw [hq] at hz hs hb
    simp at hz hs hb
    exact ⟨i, rfl, hz, hs, hb⟩

theorem fill_parts (F : Nat → Bool) : Instr.fill (fun i => some (i * 257, 257)) ((Array.range (1 * 257)).map ((LA0 257 fun _ => false)[· % (LA0 257 fun _ => false).size]!)) [(0, .agg (LA0 257 F))] = some (LA0 257 F) := by kernel_rfl

/-- '[]part{x}' for an append: a new block with the part in it. -/
theorem wpList_buildSlice_part {ops : Array Oper} {rest : List Oper} {o : Oper} {a : Act} {w : World} {Q : Exit → Act → World → Prop} (hg : o.guard = none) (x : Operand) (ho : o.op = .buildSlice 130 1 #[(0, x)])
    (F : Nat → Bool) (hx : a.eval x = .agg (LA 257 F)) (h : wpList Tryz.prog ops Q rest (a.put o.dst (.slice (some ⟨w.heap.size, 0, none⟩) 1 1)) (w.alloc (.cells (LA 257 F) 155))) : wpList Tryz.prog ops Q (o :: rest) a w := by
  obtain ⟨i, hi, hz, hs, _⟩ := info_part
  refine wpList_buildSlice hg 130 155 1 #[(0, x)] ho (LA 257 F) i _ Tryz.underlying130 hi hz (by rw [hs]; decide) (by rw [hs]; decide) ?_ h
  rw [hs]
  have := fill_parts F
  simp only [Value.cells]
  simpa [hx, LA_eq] using this

theorem grown_of_below {w w' : World} (h : Below w.heap.size w w') : w.grownBy w' none := ⟨h.os, h.tape, h.output, h.size, fun k hk _ => h.block k hk⟩

theorem owns_later {w w' : World} {base n : Nat} {v : Value} {xs : List Value} (h : w.ownsRow base 155 257 v n xs) (hb : Below w.heap.size w w') : w'.ownsRow base 155 257 v n xs := by
  refine h.kept (grown_of_below hb) ?_
  cases hv : v.ownBlock with
  | none => exact .inl rfl
  | some k => exact .inr (by simp)

theorem wpList_append_part {ops : Array Oper} {rest : List Oper} {o : Oper} {a : Act} {w : World} {Q : Exit → Act → World → Prop} (hgd : o.guard = none) (s x : Operand)
    (ho : o.op = .call { callee := .builtin .append, args := #[s, x], argTypes := #[130, 130] })
    (base : Nat) (v : Value) (ps : List Part) (hs : a.eval s = v) (hown : w.ownsRow base 155 257 v ps.length (flat ps))
    (g : Nat) (hx : a.eval x = .slice (some ⟨g, 0, none⟩) 1 1) (p : Part) (hg : w.heap[g]? = some (.cells (LA 257 (PF p.1 p.2)) 155 (0, 0)))
    (hn : ps.length ≤ 1000) (hbase : base ≤ w.heap.size)
    (h : ∀ v' w', w'.ownsRow base 155 257 v' (ps.length + 1) (flat (ps ++ [p])) → w.grownBy w' v.ownBlock → wpList Tryz.prog ops Q rest (a.put o.dst v') w') : wpList Tryz.prog ops Q (o :: rest) a w := by
  obtain ⟨i, hi, hz, hsz, hby⟩ := info_part
  refine wpList_append_own (P := Tryz.prog) w hgd s x 130 ho base 155 i _ 257 257 Tryz.underlying130 hi hz hsz hby (by simp [Value.cells, LA_size]) (by decide) v ps.length (flat ps) hs hown ⟨g, 0, none⟩ 1 1 (LA 257 (PF p.1 p.2)).toList hx (by simp [LA_size]) ?_ ?_ (by simp only [maxLen]; omega) (by omega) hbase ?_
  · intro j u hu
    have hadd : (⟨g, 0, none⟩ : Addr).add j = ⟨g, j, none⟩ := by unfold Addr.add; split <;> simp_all
    rw [hadd, cell_of_row w g j _ _ _ hg]
    simpa using hu
  · intro u hu
    have := LA_one 257 (PF p.1 p.2)
    rw [Array.all_eq_true_iff_forall_mem] at this
    exact this u (by simpa using hu)
  · intro v' w' h1 h2 _
    refine h v' w' ?_ h2
    rw [flat_snoc]
    exact h1
end Go.Proofs.YtlgghomjlhnijaaGreat.Gl

/- The walk of glob.parse. -/
namespace Go.Proofs.YtlgghomjlhnijaaGreat.Gl
open Go.RowKit
attribute [local go_sem] LA_size

/-- The parts of a pattern from a place on; none, if it is no pattern. -/
def partsR : Nat → ByteArray → Nat → Option (List Part)
  | 0, _, _ => none
  | k + 1, s, a => if a < s.size then (match firstR (s.extract a s.size) with
    | none => none
    | some (f, m, n) => (partsR k s (a + n)).map ((f, m) :: ·)) else some []

theorem classFin_pos {nb : Bool} {B size n : Nat} {f : Nat → Bool} {x : Option (Nat × (Nat → Bool))} (h : classFin nb B size x = some (f, n)) : 1 ≤ n := by
  cases x with
  | none => simp [classFin] at h
  | some y =>
    obtain ⟨a, g⟩ := y
    simp only [classFin] at h
    split at h
    · simp at h
    · simp only [Option.some.injEq, Prod.mk.injEq] at h; omega
theorem scan_le : ∀ (k : Nat) (s : ByteArray) (a : Nat) (f : Nat → Bool) (b : Nat) (g : Nat → Bool), a ≤ s.size → scan k s a f = some (b, g) → b ≤ s.size
  | 0, _, _, _, _, _, _, h => by simp [scan] at h
  | k + 1, s, a, f, b, g, ha, h => by
    rw [scan] at h
    split at h
    · rename_i hc
      split at h
      · simp at h
      · exact scan_le k s _ _ b g (memberAt_le s a hc.1).1 h
    · simp only [Option.some.injEq, Prod.mk.injEq] at h; omega
theorem firstR_bound {s : ByteArray} (hs : 1 ≤ s.size) {f : Nat → Bool} {m : Bool} {n : Nat} (h : firstR s = some (f, m, n)) : 1 ≤ n ∧ n ≤ s.size := by
  unfold firstR at h
  split at h
  · rename_i hst
    simp only [starsB, Bool.and_eq_true, decide_eq_true_eq] at hst
    simp only [Option.some.injEq, Prod.mk.injEq] at h; omega
  · split at h
    · simp only [Option.some.injEq, Prod.mk.injEq] at h; omega
    · split at h
      · simp only [Option.some.injEq, Prod.mk.injEq] at h; omega
      · split at h
        · unfold classP at h
          cases hc : classR s with
          | none => simp [hc] at h
          | some x =>
            obtain ⟨g, k⟩ := x
            simp only [hc, Option.map_some, Option.some.injEq, Prod.mk.injEq] at h
            obtain ⟨rfl, rfl, rfl⟩ := h
            unfold classR at hc
            refine ⟨classFin_pos hc, ?_⟩
            cases hsc : scan (s.size + 1) s (classBegin s) fun _ => false with
            | none => simp [hsc, classFin] at hc
            | some y =>
              obtain ⟨b, g'⟩ := y
              have hb : classBegin s ≤ s.size := by
                unfold classBegin notB
                split
                · rename_i hh; simp at hh; omega
                · omega
              have := scan_le _ _ _ _ _ _ hb hsc
              simp only [hsc, classFin] at hc
              split at hc
              · simp at hc
              · simp only [Option.some.injEq, Prod.mk.injEq] at hc; omega
        · split at h
          · unfold escR at h
            split at h
            · simp only [Option.some.injEq, Prod.mk.injEq] at h; omega
            · simp at h
          · split at h
            · simp only [Option.some.injEq, Prod.mk.injEq] at h; omega
            · simp at h

/-- The number of the error, or the parts. -/
def parseR (p : ByteArray) : Nat ⊕ List Part := if 24 < p.size then .inl 2 else if p.size = 0 then .inl 4 else match partsR (p.size + 1) p 0 with
  | none => .inl 4
  | some ps => .inr ps

/-- What parse hands back, and in which world. -/
def Parsed (w : World) (r : Nat ⊕ List Part) (e : Ending) (w' : World) : Prop := Below w.heap.size w w' ∧ match r with
  | .inl n => e = .returned (.tuple #[.slice none 0 0, .iface 93 (.int .i64 n)])
  | .inr ps => ∃ sv, e = .returned (.tuple #[sv, .nilIface]) ∧ w'.ownsRow w.heap.size 155 257 sv ps.length (flat ps)

set_option maxRecDepth 10000 in
set_option maxHeartbeats 1000000 in
theorem parse_any (p : ByteArray) (hz : p.size ≤ 1000) (w : World) : Calls Tryz.prog 62 #[.string p] w (Parsed w (parseR p)) := by
  by_cases h24 : 24 < p.size
  · have hR : parseR p = .inl 2 := by unfold parseR; rw [if_pos h24]
    rw [hR]
    go_enter Tryz.func62, Tryz.ntmps62
    go_wp2
    go_ret2
    exact ⟨Below.refl _ _, rfl⟩
  · by_cases h0 : p.size = 0
    · have hR : parseR p = .inl 4 := by unfold parseR; rw [if_neg h24, if_pos h0]
      rw [hR]
      have b0 : ((p.size : Int) == 0) = true := by rw [beq_iff_eq]; omega
      have H0 := hide h0
      clear h0
      go_enter Tryz.func62, Tryz.ntmps62
      go_wp2
      go_ret2
      exact ⟨Below.refl _ _, rfl⟩
    · have hR : ∀ r, partsR (p.size + 1) p 0 = r → parseR p = (match r with | none => .inl 4 | some ps => .inr ps) := by intro r hr; unfold parseR; rw [if_neg h24, if_neg h0, hr]
      have b0 : ((p.size : Int) == 0) = false := by rw [beq_eq_false_iff_ne]; omega
      have HR := hide hR
      clear hR h0
      go_enter Tryz.func62, Tryz.ntmps62
      go_wp2_with fail
      go_loopw [4, 5] (fun l at' wr => ∃ (a : Nat) (ps : List Part) (fuel : Nat), a ≤ p.size ∧ ps.length ≤ a ∧ at' = .int .i64 a ∧ p.size - a < fuel ∧ partsR (p.size + 1) p 0 = (partsR fuel p a).map (ps ++ ·) ∧ wr.ownsRow w.heap.size 155 257 l ps.length (flat ps) ∧ Below w.heap.size w wr) (fun _ at' _ => p.size - (intOf at').toNat)
      case atStart => exact ⟨0, [], p.size + 1, by omega, by simp, rfl, by omega, by simp, World.ownsRow_nil _ _ _ _, Below.refl _ _⟩
      case round =>
        obtain ⟨a, ps, fuel, ha, hps, rfl, hfuel, hpr, hown, hB⟩ := hrel
        obtain ⟨fu, rfl⟩ : ∃ fu, fuel = fu + 1 := ⟨fuel - 1, by omega⟩
        have Hpr := hide hpr
        have Hown := hide hown
        clear hpr hown
        by_cases hlt : a < p.size
        · cases hF : firstR (p.extract a p.size) with
          | none =>
            have hnone : parseR p = .inl 4 := HR.out none (by rw [Hpr.out, partsR, if_pos hlt, hF]; rfl)
            have HV := hide (show partV (firstR (p.extract a p.size)) = .tuple #[.agg (LA 257 fun _ => false), .int .i64 0] by rw [hF]; rfl)
            have HN := hide hnone
            have zp := zv_part
            clear hF hnone HR Hpr
            go_wp2_with (first
              | (go_at_call 79; refine (first_any _ (by rw [size_extract]; omega) (by rw [size_extract]; omega) _).mono ?_; rintro e W ⟨rfl, hW⟩; rw [HV.out])
              | (refine wpList_store_LA 155 257 rfl _ _ rfl W.heap.size ?_ (fun _ => false) ?_ size_part (fun _ => false) 155 ?_ ?_; (· rfl); (· rfl); (· with_reducible exact heap_alloc_new _ _)))
            go_ret2
            rw [HN.out]
            exact ⟨below_setRow ((hB.trans (hW.mono hB.size)).alloc (Nat.le_trans hB.size hW.size) _) (Nat.le_trans hB.size hW.size) _, rfl⟩
          | some x =>
            obtain ⟨f, m, n⟩ := x
            have hbd := firstR_bound (by rw [size_extract]; omega) hF
            rw [size_extract] at hbd
            have hnext : partsR (p.size + 1) p 0 = (partsR fu p (a + n)).map ((ps ++ [(f, m)]) ++ ·) := by
              rw [Hpr.out, partsR, if_pos hlt, hF]
              show Option.map _ (Option.map _ (partsR fu p (a + n))) = _
              generalize partsR fu p (a + n) = r
              cases r <;> simp
            have HX := hide hnext
            have HV := hide (show partV (firstR (p.extract a p.size)) = .tuple #[.agg (LA 257 (PF f m)), .int .i64 n] by rw [hF]; rfl)
            have zp := zv_part
            have n0 : ((n : Int) == 0) = false := by rw [beq_eq_false_iff_ne]; omega
            clear hF hnext HR Hpr
            go_wp2_with (first
              | (go_at_call 79; refine (first_any _ (by rw [size_extract]; omega) (by rw [size_extract]; omega) _).mono ?_; rintro e W ⟨rfl, hW⟩; rw [HV.out])
              | (refine wpList_store_LA 155 257 rfl _ _ rfl W.heap.size ?_ (PF f m) ?_ size_part (fun _ => false) 155 ?_ ?_; (· rfl); (· rfl); (· with_reducible exact heap_alloc_new _ _); refine wpList_forget (fun V => Below W.heap.size W V ∧ V.heap[W.heap.size]? = some (.cells (LA 257 (PF f m)) 155 (0, 0))) ⟨below_setRow ((Below.refl _ _).alloc (Nat.le_refl _) _) (Nat.le_refl _) _, heap_setRow_same _ (heap_alloc_new _ _)⟩ ?_; rintro V ⟨hV, hVp⟩)
              | (refine wpList_load_part rfl _ rfl W.heap.size ?_ (PF f m) ?_ ?_; (· rfl); (· exact hVp))
              | (refine wpList_buildSlice_part rfl _ rfl (PF f m) ?_ ?_; (· rfl))
              | (refine wpList_append_part rfl _ _ rfl w.heap.size u4 ps ?_ ?_ V.heap.size ?_ (f, m) ?_ (by omega) ?_ ?_; (· rfl); (· exact owns_later Hown.out ((hW.trans (hV.mono hW.size)).alloc (Nat.le_trans hW.size hV.size) _)); (· rfl); (· exact heap_alloc_new _ _); (· exact Nat.le_trans hB.size (Nat.le_trans hW.size (Nat.le_trans hV.size (by simp)))); intro v' w2 ho2 hg2))
            go_roundw
            case rel =>
              have hsz : w.heap.size ≤ (V.alloc (Obj.cells (LA 257 (PF f m)) 155)).heap.size := Nat.le_trans hB.size (Nat.le_trans hW.size (Nat.le_trans hV.size (by simp)))
              have hB2 : Below w.heap.size w (V.alloc (Obj.cells (LA 257 (PF f m)) 155)) := ((hB.trans (hW.mono hB.size)).trans (hV.mono (Nat.le_trans hB.size hW.size))).alloc (Nat.le_trans hB.size (Nat.le_trans hW.size hV.size)) _
              exact ⟨a + n, ps ++ [(f, m)], fu, by omega, by simp; omega, by go_num, by omega, HX.out, by simpa using ho2, hB2.grown hg2 hsz fun k hk => (Hown.out.lt k hk).1⟩
            case measure => simp [intOf]; omega
        · have hend : partsR (p.size + 1) p 0 = some ps := by rw [Hpr.out, partsR, if_neg hlt]; simp
          have HN := hide (HR.out _ hend)
          have hown := Hown.out
          clear hend HR Hpr Hown
          have HO := hide hown
          clear hown
          go_wp2_with fail
          go_ret2
          rw [HN.out]
          exact ⟨hB, _, rfl, HO.out⟩
end Go.Proofs.YtlgghomjlhnijaaGreat.Gl

/- Policies: what they are, their words and lines, what is wrong with them; how texts are cut and joined. -/
namespace Go.Proofs.YtlgghomjlhnijaaGreat

abbrev W8 := List UInt8

/-- An action. -/
structure ACT where
  kind : Int
  errno : Int
/-- A net. -/
structure NT where
  ip : Nat
  bits : Int
  lo : Int
  hi : Int
/-- A cond. -/
structure CD where
  arg : Int
  op : Int
  v : Nat
  m : Nat
  glob : ByteArray
  net : NT
/-- A rule. -/
structure RL where
  nr : Int
  conds : List CD
  act : ACT
/-- A policy. -/
structure POL where
  rules : List RL
  els : ACT

def actF (a : ACT) : Nat := if a.kind ≠ 1 ∧ a.kind ≠ 2 ∧ a.kind ≠ 3 then 3 else if a.kind ≠ 2 ∧ a.errno ≠ 0 then 3 else if a.kind = 2 ∧ (a.errno < 1 ∨ 255 < a.errno) then 1 else 0
def kindTab : List (List Nat) := [[1, 1, 0, 0], [1, 1, 0, 0], [2, 1, 1, 0], [1, 0, 0, 0], [2, 0, 0, 0], [2, 2, 0, 0], [1, 3, 0, 0], [2, 2, 1, 0], [1, 1, 3, 1]]
def kindAt (nr arg : Nat) : Nat := (kindTab.getD nr []).getD arg 0
def kindOp (op : Int) : Nat := if op = 8 then 2 else if op = 9 then 3 else 1
/-- Is a net its zero value? -/
def netZ (n : NT) : Prop := n.ip = 0 ∧ n.bits = 0 ∧ n.lo = 0 ∧ n.hi = 0
instance (n : NT) : Decidable (netZ n) := by unfold netZ; infer_instance
def unusedP (c : CD) : Prop := (c.m ≠ 0 ∧ c.op ≠ 7) ∨ (c.v ≠ 0 ∧ (c.op = 8 ∨ c.op = 9)) ∨ (c.glob.size ≠ 0 ∧ c.op ≠ 8) ∨ (¬ netZ c.net ∧ c.op ≠ 9)
instance (c : CD) : Decidable (unusedP c) := by unfold unusedP; infer_instance
def globF (p : ByteArray) : Nat := match Gl.parseR p with
  | .inl n => n
  | .inr _ => 0
def netF (n : NT) : Nat := faultOf n.ip n.bits n.lo n.hi
def condF (nr : Nat) (c : CD) : Nat :=
  if c.arg < 0 ∨ 3 < c.arg ∨ c.op < 1 ∨ 9 < c.op then 1
  else if kindAt nr c.arg.toNat ≠ kindOp c.op ∨ unusedP c then 3
  else if c.op = 8 then globF c.glob else if c.op = 9 then netF c.net else 0
/-- The first that is not nought. -/
def firstF : List Nat → Nat
  | [] => 0
  | x :: r => if x = 0 then firstF r else x
def ruleF (r : RL) : Nat :=
  if r.nr < 0 ∨ 8 < r.nr then 1 else if 4 < r.conds.length then 2
  else if firstF (r.conds.map (condF r.nr.toNat)) = 0 then actF r.act else firstF (r.conds.map (condF r.nr.toNat))
def polF (p : POL) : Nat := if 12 < p.rules.length then 2 else if actF p.els = 0 then firstF (p.rules.map ruleF) else actF p.els

theorem firstF_zero : ∀ {l : List Nat}, firstF l = 0 ↔ ∀ x ∈ l, x = 0
  | [] => by simp [firstF]
  | x :: r => by
    by_cases h : x = 0
    · simp [firstF, h, firstF_zero (l := r)]
    · simp [firstF, h]

/-! Words. -/
def wAllow : W8 := [97, 108, 108, 111, 119]
def wKill : W8 := [107, 105, 108, 108]
def wDeny : W8 := [100, 101, 110, 121]
def wElse : W8 := [101, 108, 115, 101]
def wIf : W8 := [105, 102]
def wAnd : W8 := [97, 110, 100]
def signW : List W8 := [[61, 61], [33, 61], [60], [60, 61], [62], [62, 61], [38], [126], [105, 110]]
def nameW : List W8 := [[114, 101, 97, 100], [119, 114, 105, 116, 101], [111, 112, 101, 110], [99, 108, 111, 115, 101], [115, 116, 97, 116], [114, 101, 110, 97, 109, 101], [99, 111, 110, 110, 101, 99, 116], [108, 105, 110, 107], [115, 101, 110, 100]]
def signOf (op : Int) : W8 := signW.getD (op.toNat - 1) []
def nameOf (nr : Int) : W8 := nameW.getD nr.toNat []
def actW (a : ACT) : List W8 := if a.kind = 1 then [wAllow] else if a.kind = 3 then [wKill] else [wDeny, Lib.decDigits a.errno.toNat]
def netW (n : NT) : W8 := netText n.ip n.bits.toNat n.lo.toNat n.hi.toNat
def condW (c : CD) : List W8 := Lib.decDigits c.arg.toNat :: signOf c.op ::
  (if c.op = 7 then [Lib.decDigits c.m, [61, 61], Lib.decDigits c.v] else if c.op = 8 then [34 :: (c.glob.data.toList ++ [34])] else if c.op = 9 then [netW c.net] else [Lib.decDigits c.v])
def condsW : Bool → List CD → List W8
  | _, [] => []
  | f, c :: r => (if f then wIf else wAnd) :: (condW c ++ condsW false r)
def ruleW (r : RL) : List W8 := actW r.act ++ nameOf r.nr :: condsW true r.conds
/-- Joined, with a byte between. -/
def joinC (c : UInt8) : List W8 → W8
  | [] => []
  | [w] => w
  | w :: x :: r => w ++ c :: joinC c (x :: r)
def textP (p : POL) : W8 := joinC 32 (wElse :: actW p.els) ++ 10 :: p.rules.flatMap fun r => joinC 32 (ruleW r) ++ [10]
/-- Cut at a byte. -/
def splitC (c : UInt8) : W8 → List W8
  | [] => [[]]
  | x :: r => if x = c then [] :: splitC c r else match splitC c r with
    | [] => [[x]]
    | h :: t => (x :: h) :: t

theorem splitC_ne (c : UInt8) : ∀ l : W8, splitC c l ≠ []
  | [] => by simp [splitC]
  | x :: r => by
    unfold splitC
    split
    · simp
    · split <;> simp
theorem splitC_app (c : UInt8) (b : W8) : ∀ a : W8, c ∉ a → splitC c (a ++ c :: b) = a :: splitC c b
  | [], _ => by simp [splitC]
  | x :: r, h => by
    have hx : x ≠ c := fun e => h (by simp [e])
    rw [List.cons_append, splitC, if_neg hx, splitC_app c b r (fun e => h (by simp [e]))]
theorem splitC_self (c : UInt8) : ∀ a : W8, c ∉ a → splitC c a = [a]
  | [], _ => rfl
  | x :: r, h => by
    have hx : x ≠ c := fun e => h (by simp [e])
    rw [splitC, if_neg hx, splitC_self c r (fun e => h (by simp [e]))]
theorem split_join (c : UInt8) : ∀ ws : List W8, ws ≠ [] → (∀ w ∈ ws, c ∉ w) → splitC c (joinC c ws) = ws
  | [], h, _ => absurd rfl h
  | [w], _, h => by rw [joinC, splitC_self c w (h w (by simp))]
  | w :: x :: r, _, h => by
    rw [joinC, splitC_app c _ w (h w (by simp)), split_join c (x :: r) (by simp) fun y hy => h y (by simp [hy])]
theorem join_cons (c : UInt8) (w : W8) : ∀ r : List W8, r ≠ [] → joinC c (w :: r) = w ++ c :: joinC c r
  | [], h => absurd rfl h
  | _ :: _, _ => rfl
theorem join_app (c : UInt8) (b : List W8) (hb : b ≠ []) : ∀ a : List W8, a ≠ [] → joinC c (a ++ b) = joinC c a ++ c :: joinC c b
  | [], h => absurd rfl h
  | [w], _ => by rw [List.singleton_append, join_cons c w b hb]; rfl
  | w :: x :: r, _ => by
    rw [List.cons_append, List.cons_append, joinC, ← List.cons_append, join_app c b hb (x :: r) (by simp), joinC]
    simp
theorem join_split (c : UInt8) : ∀ l : W8, joinC c (splitC c l) = l
  | [] => rfl
  | x :: r => by
    have ih := join_split c r
    unfold splitC
    split
    · rename_i hx
      rw [join_cons c _ _ (splitC_ne c r), ih, hx]
      rfl
    · split
      · rename_i he
        exact absurd he (splitC_ne c r)
      · rename_i h t he
        rw [he] at ih
        cases t with
        | nil => rw [← ih]; rfl
        | cons y z => rw [← ih]; rfl
/-- No piece has the byte. -/
theorem split_notin (c : UInt8) : ∀ (l : W8) (w : W8), w ∈ splitC c l → c ∉ w
  | [], w, h => by
    rw [splitC, List.mem_singleton] at h
    simp [h]
  | x :: r, w, h => by
    have ih := split_notin c r
    unfold splitC at h
    split at h
    · rcases List.mem_cons.1 h with rfl | h
      · simp
      · exact ih w h
    · rename_i hx
      split at h
      · rw [List.mem_singleton] at h
        subst h
        simpa using fun e => hx e.symm
      · rename_i p t he
        rcases List.mem_cons.1 h with rfl | h
        · intro hm
          rcases List.mem_cons.1 hm with e | e
          · exact hx e.symm
          · exact ih p (by rw [he]; simp) e
        · exact ih w (by rw [he]; simp [h])
/-- Lines, each with a byte behind it: what is cut ends with an empty one. -/
theorem split_lines (c : UInt8) : ∀ ls : List W8, (∀ w ∈ ls, c ∉ w) → splitC c (ls.flatMap fun w => w ++ [c]) = ls ++ [[]]
  | [], _ => rfl
  | w :: r, h => by
    have e : (List.flatMap (fun w => w ++ [c]) (w :: r)) = w ++ c :: List.flatMap (fun w => w ++ [c]) r := by simp
    rw [e, splitC_app c _ w (h w (by simp)), split_lines c r fun y hy => h y (by simp [hy])]
    rfl
theorem lines_join (c : UInt8) : ∀ ls : List W8, joinC c (ls ++ [[]]) = ls.flatMap fun w => w ++ [c]
  | [] => rfl
  | w :: r => by
    rw [List.cons_append, join_cons c w _ (by simp), lines_join c r]
    simp
end Go.Proofs.YtlgghomjlhnijaaGreat

/- Policies read: as the code reads (loosely), as the document reads; what is written is read, what is read was written. -/
namespace Go.Proofs.YtlgghomjlhnijaaGreat

theorem nDigits_le20 (n : Nat) (h : n < 18446744073709551616) : (Lib.decDigits n).length ≤ 20 := by
  rw [Lib.decDigits_length]
  have step : ∀ k m, m < 10 ^ (k + 1) → Lib.nDigits m ≤ k + 1 := by
    intro k
    induction k with
    | zero =>
      intro m hm
      unfold Lib.nDigits
      rw [dif_pos (by simpa using hm)]
      exact Nat.le_refl _
    | succ k ih =>
      intro m hm
      unfold Lib.nDigits
      split
      · omega
      · have := ih (m / 10) (by rw [Nat.div_lt_iff_lt_mul (by omega)]; rwa [Nat.pow_succ] at hm)
        omega
  exact step 19 n (by omega)

theorem fig_dec (n : Nat) (h : n < 18446744073709551616) : figOk (Lib.decDigits n) = true ∧ figN (Lib.decDigits n) = n := by
  have hl := nDigits_le20 n h
  have hc : ¬ (20 < (Lib.decDigits n).length ∨ (Lib.decDigits n).all isDig = false) := by
    rw [dec_all]
    simp
    omega
  have hn : figN (Lib.decDigits n) = n := by
    unfold figN
    rw [if_neg hc, dec_val]
    exact Nat.mod_eq_of_lt h
  refine ⟨?_, hn⟩
  unfold figOk
  rw [if_neg hc, hn]
  simp
theorem fig_ok {w : W8} (h : figOk w = true) : w = Lib.decDigits (figN w) := by
  unfold figOk at h
  split at h
  · cases h
  · exact (eq_of_beq h).symm
theorem figN_lt (w : W8) : figN w < 18446744073709551616 := by
  unfold figN
  split
  · omega
  · exact Nat.mod_lt _ (by omega)

theorem digVal_ge : ∀ (l : W8) (n : Nat), n ≤ digVal n l
  | [], n => Nat.le_refl _
  | c :: r, n => by
    rw [digVal_cons]
    have := digVal_ge r (n * 10 + (c.toNat - 48))
    omega
theorem parseM_digits : ∀ (l : W8) (acc : Nat), l.all isDig = true → digVal acc l < 18446744073709551616 → Lib.parseUintM (2 ^ 64 - 1) acc l = .ok (digVal acc l)
  | [], _, _, _ => rfl
  | c :: r, acc, ha, hv => by
    rw [List.all_cons, Bool.and_eq_true] at ha
    have hd := ha.1
    unfold isDig at hd
    rw [Bool.and_eq_true, decide_eq_true_eq, decide_eq_true_eq] at hd
    rw [digVal_cons] at hv ⊢
    have hg := digVal_ge r (acc * 10 + (c.toNat - 48))
    rw [Lib.parseUintM, if_pos hd, if_neg (by omega), if_neg (by omega), parseM_digits r _ ha.2 hv]
/-- readNumber of a word. -/
def numU (w : W8) : Nat := match Lib.parseUintB 64 w with
  | .ok n => n
  | _ => 0
theorem numU_dec (n : Nat) (h : n < 18446744073709551616) : numU (Lib.decDigits n) = n := by
  unfold numU Lib.parseUintB
  rw [if_neg (dec_ne n), parseM_digits _ 0 (dec_all n) (by rw [dec_val]; exact h), dec_val]

/-- The number of a call's name; -1: none. -/
def findCall (w : W8) : Int := match nameW.findIdx? (· == w) with
  | some i => i
  | none => -1
def findOp (w : W8) : Nat := match signW.findIdx? (· == w) with
  | some i => i + 1
  | none => 0
/-- A uint64 as an int. -/
def toI (n : Nat) : Int := IntKind.i64.wrap n
theorem toI_small (n : Nat) (h : n < 9223372036854775808) : toI n = n := by
  unfold toI
  rw [IntKind.wrap_i64]
  omega
def trimQ (w : W8) : W8 := Lib.trimB w 34

/-! The code's reading: what is read, and the words that are left. -/
def readAct (l : List W8) : ACT × List W8 :=
  if l.headD [] = wAllow then (⟨1, 0⟩, l.tail) else if l.headD [] = wKill then (⟨3, 0⟩, l.tail)
  else if l.headD [] = wDeny then (⟨2, toI (numU (l.tail.headD []))⟩, l.tail.tail) else (⟨0, 0⟩, l.tail)
def noNet : NT := ⟨0, 0, 0, 0⟩
def netRead (w : W8) : NT := match parseR w with
  | some (ip, b, lo, hi) => ⟨ip, b, lo, hi⟩
  | none => noNet
def readCond (l : List W8) : CD × List W8 :=
  let arg := toI (numU (l.headD []))
  let op := findOp (l.tail.headD [])
  let r := l.tail.tail
  if op = 8 then (⟨arg, op, 0, 0, ⟨(trimQ (r.headD [])).toArray⟩, noNet⟩, r.tail)
  else if op = 9 then (⟨arg, op, 0, 0, ByteArray.empty, netRead (r.headD [])⟩, r.tail)
  else if op = 7 then (⟨arg, op, numU (r.tail.tail.headD []), numU (r.headD []), ByteArray.empty, noNet⟩, r.tail.tail.tail)
  else (⟨arg, op, numU (r.headD []), 0, ByteArray.empty, noNet⟩, r.tail)
theorem readCond_le (l : List W8) : (readCond l).2.length ≤ l.length := by
  unfold readCond
  simp only
  split
  · simp; omega
  · split
    · simp; omega
    · split
      · simp; omega
      · simp; omega
def readConds : Nat → List W8 → List CD
  | 0, _ => []
  | n + 1, l => if l = [] then [] else (readCond l.tail).1 :: readConds n (readCond l.tail).2
def readRule (line : W8) : RL :=
  let l := splitC 32 line
  let r := (readAct l).2
  ⟨findCall (r.headD []), readConds r.tail.length r.tail, (readAct l).1⟩
def trimN (s : W8) : W8 := Lib.trimSuffix s [10]
def readP (s : W8) : POL :=
  ⟨(splitC 10 (trimN s)).tail.map readRule, (readAct ((splitC 32 ((splitC 10 (trimN s)).headD [])).tail)).1⟩

/-! The document's. -/
def docDeny : List W8 → Option (ACT × Nat)
  | [] => none
  | x :: _ => if figOk x = true ∧ figN x < 1000 then some (⟨2, figN x⟩, 2) else none
def docAct : List W8 → Option (ACT × Nat)
  | [] => none
  | w :: r => if w = wAllow then some (⟨1, 0⟩, 1) else if w = wKill then some (⟨3, 0⟩, 1) else if w = wDeny then docDeny r else none
def findOp6 (w : W8) : Nat := match (signW.take 6).findIdx? (· == w) with
  | some i => i + 1
  | none => 0
def docMask (a x : W8) : List W8 → Option (CD × Nat)
  | y :: z :: _ => if y = [61, 61] ∧ figOk x = true ∧ figOk z = true then some (⟨figN a, 7, figN z, figN x, ByteArray.empty, noNet⟩, 5) else none
  | _ => none
def docCond : List W8 → Option (CD × Nat)
  | a :: s :: x :: r =>
    if figOk a = true ∧ figN a ≤ 3 then
      if s = [38] then docMask a x r
      else if s = [126] then (if 2 ≤ x.length ∧ x.head? = some 34 ∧ x.getLast? = some 34 then some (⟨figN a, 8, 0, 0, ⟨x.tail.dropLast.toArray⟩, noNet⟩, 3) else none)
      else if s = [105, 110] then (match parseR x with
        | some (ip, b, lo, hi) => some (⟨figN a, 9, 0, 0, ByteArray.empty, ⟨ip, b, lo, hi⟩⟩, 3)
        | none => none)
      else if findOp6 s ≠ 0 ∧ figOk x = true then some (⟨figN a, findOp6 s, figN x, 0, ByteArray.empty, noNet⟩, 3) else none
    else none
  | _ => none
def docConds : Nat → Bool → List W8 → Option (List CD)
  | _, _, [] => some []
  | 0, _, _ :: _ => none
  | n + 1, f, w :: r => if w = (if f then wIf else wAnd) then (match docCond r with
      | some (c, k) => (docConds n false (r.drop k)).map (c :: ·)
      | none => none) else none
def docRule (l : List W8) : Option RL := match docAct l with
  | some (a, n) => if n < l.length then (match docConds l.length true (l.drop (n + 1)) with
    | some cs => if findCall (l.getD n []) < 0 then none else some ⟨findCall (l.getD n []), cs, a⟩
    | none => none) else none
  | none => none
def docRules : List W8 → Option (List RL)
  | [] => some []
  | w :: r => match docRule (splitC 32 w) with
    | some x => (docRules r).map (x :: ·)
    | none => none
/-- The first words of a text. -/
def docHead (l : List W8) : Option ACT := match l with
  | [] => none
  | w :: r => if w = wElse then (match docAct r with
    | some (a, n) => if n = r.length then some a else none
    | none => none) else none
def docP (s : W8) : Option POL :=
  let ls := splitC 10 s
  if ls.length < 2 ∨ 14 < ls.length ∨ ls.getLast? ≠ some [] then none
  else match docHead (splitC 32 (ls.headD [])) with
    | some a => (match docRules ls.tail.dropLast with
      | some rs => if polF ⟨rs, a⟩ = 0 then some ⟨rs, a⟩ else none
      | none => none)
    | none => none
end Go.Proofs.YtlgghomjlhnijaaGreat

/- The bytes of a pattern: from 33 to 126, none is a quote. -/
namespace Go.Proofs.YtlgghomjlhnijaaGreat.Gl
open Go.RowKit

def printB (n : Nat) : Prop := 33 ≤ n ∧ n ≤ 126 ∧ n ≠ 34
theorem name_print {n : Nat} (h : nameB n = true) : printB n := by
  simp [nameB] at h
  unfold printB
  omega
theorem sign_print {n : Nat} (h : signB n = true) : printB n := by
  simp [signB] at h
  unfold printB
  omega
theorem plain_print {n : Nat} (h : plainB n = true) : printB n := by
  simp [plainB] at h
  unfold printB
  omega
theorem member_print (s : ByteArray) (a : Nat) (ha : a < s.size) (h : memberAt s a ≠ 0) : ∀ i, a ≤ i → i < a + memberAt s a → printB (byteAt s i) := by
  intro i h1 h2
  unfold memberAt memberN at h h2
  by_cases n0 : nameB (byteAt s a) = true
  · have p0 := name_print n0
    rw [if_pos n0] at h h2
    by_cases h3 : s.size - a < 2
    · rw [if_pos h3] at h2
      obtain rfl : i = a := by omega
      exact p0
    · rw [if_neg h3] at h h2
      by_cases h4 : byteAt s (a + 1) = 45
      · rw [if_pos h4] at h h2
        by_cases h5 : s.size - a < 3
        · rw [if_pos h5] at h; exact absurd rfl h
        · rw [if_neg h5] at h h2
          by_cases h6 : nameB (byteAt s (a + 2)) = true
          · rw [if_pos h6] at h h2
            by_cases h7 : byteAt s (a + 2) < byteAt s a
            · rw [if_pos h7] at h; exact absurd rfl h
            · rw [if_neg h7] at h2
              have p2 := name_print h6
              rcases (by omega : i = a ∨ i = a + 1 ∨ i = a + 2) with rfl | rfl | rfl
              · exact p0
              · rw [h4]; unfold printB; omega
              · exact p2
          · rw [if_neg h6] at h; exact absurd rfl h
      · rw [if_neg h4] at h2
        obtain rfl : i = a := by omega
        exact p0
  · rw [if_neg n0] at h; exact absurd rfl h
theorem scan_print : ∀ (k : Nat) (s : ByteArray) (a : Nat) (f : Nat → Bool) (b : Nat) (g : Nat → Bool), scan k s a f = some (b, g) → (∀ i, a ≤ i → i < b → printB (byteAt s i)) ∧ (b < s.size → byteAt s b = 93)
  | 0, _, _, _, _, _, h => by simp [scan] at h
  | k + 1, s, a, f, b, g, h => by
    rw [scan] at h
    split at h
    · rename_i hc
      split at h
      · simp at h
      · rename_i hm
        have ih := scan_print k s _ _ b g h
        refine ⟨fun i h1 h2 => ?_, ih.2⟩
        by_cases hi : i < a + memberAt s a
        · exact member_print s a hc.1 hm i h1 hi
        · exact ih.1 i (by omega) h2
    · rename_i hc
      simp only [Option.some.injEq, Prod.mk.injEq] at h
      obtain ⟨rfl, _⟩ := h
      refine ⟨fun i h1 h2 => by omega, fun hb => ?_⟩
      exact Classical.byContradiction fun hn => hc ⟨hb, hn⟩
theorem first_print {s : ByteArray} {f : Nat → Bool} {m : Bool} {n : Nat} (h : firstR s = some (f, m, n)) : ∀ i, i < n → printB (byteAt s i) := by
  unfold firstR at h
  split at h
  · rename_i hst
    simp only [starsB, Bool.and_eq_true, decide_eq_true_eq, beq_iff_eq] at hst
    simp only [Option.some.injEq, Prod.mk.injEq] at h
    intro i hi
    rcases (by omega : i = 0 ∨ i = 1) with rfl | rfl
    · rw [hst.1.2]; unfold printB; omega
    · rw [hst.2]; unfold printB; omega
  · split at h
    · rename_i h0
      simp only [Option.some.injEq, Prod.mk.injEq] at h
      intro i hi
      obtain rfl : i = 0 := by omega
      rw [h0]; unfold printB; omega
    · split at h
      · rename_i h0
        simp only [Option.some.injEq, Prod.mk.injEq] at h
        intro i hi
        obtain rfl : i = 0 := by omega
        rw [h0]; unfold printB; omega
      · split at h
        · rename_i h0
          unfold classP at h
          cases hc : classR s with
          | none => simp [hc] at h
          | some x =>
            obtain ⟨g, k⟩ := x
            simp only [hc, Option.map_some, Option.some.injEq, Prod.mk.injEq] at h
            obtain ⟨rfl, rfl, rfl⟩ := h
            unfold classR at hc
            cases hsc : scan (s.size + 1) s (classBegin s) fun _ => false with
            | none => simp [hsc, classFin] at hc
            | some y =>
              obtain ⟨b, g'⟩ := y
              have hp := scan_print _ _ _ _ _ _ hsc
              simp only [hsc, classFin] at hc
              split at hc
              · simp at hc
              · rename_i hb
                simp only [Option.some.injEq, Prod.mk.injEq] at hc
                have hcb : classBegin s ≤ s.size ∧ (classBegin s = 1 ∨ classBegin s = 2 ∧ byteAt s 1 = 33) := by
                  unfold classBegin
                  split
                  · rename_i hn
                    simp only [notB, Bool.and_eq_true, decide_eq_true_eq, beq_iff_eq] at hn
                    exact ⟨by omega, .inr ⟨rfl, hn.2⟩⟩
                  · refine ⟨?_, .inl rfl⟩
                    by_cases hs : s.size = 0
                    · have : byteAt s 0 = 0 := by unfold byteAt; rw [Lib.size_eq] at hs; rw [List.length_eq_zero_iff.1 hs]; rfl
                      omega
                    · omega
                have hle := scan_le _ _ _ _ _ _ hcb.1 hsc
                have h93 := hp.2 (by omega)
                intro i hi
                by_cases h1 : i < classBegin s
                · rcases (by omega : i = 0 ∨ i = 1 ∧ byteAt s 1 = 33) with rfl | ⟨rfl, h33⟩
                  · rw [h0]; unfold printB; omega
                  · rw [h33]; unfold printB; omega
                · by_cases h2 : i < b
                  · exact hp.1 i (by omega) h2
                  · obtain rfl : i = b := by omega
                    rw [h93]; unfold printB; omega
        · split at h
          · rename_i h0
            unfold escR at h
            split at h
            · rename_i he
              simp only [Option.some.injEq, Prod.mk.injEq] at h
              intro i hi
              rcases (by omega : i = 0 ∨ i = 1) with rfl | rfl
              · rw [h0]; unfold printB; omega
              · exact sign_print he.2
            · simp at h
          · split at h
            · rename_i h0
              simp only [Option.some.injEq, Prod.mk.injEq] at h
              intro i hi
              obtain rfl : i = 0 := by omega
              exact plain_print h0
            · simp at h
theorem parts_print : ∀ (k : Nat) (s : ByteArray) (a : Nat) (ps : List Part), a ≤ s.size → partsR k s a = some ps → ∀ i, a ≤ i → i < s.size → printB (byteAt s i)
  | 0, _, _, _, _, h => by simp [partsR] at h
  | k + 1, s, a, ps, ha, h => by
    rw [partsR] at h
    split at h
    · rename_i hlt
      split at h
      · simp at h
      · rename_i f m n hf
        have hb := firstR_bound (by rw [size_extract]; omega) hf
        rw [size_extract] at hb
        cases hr : partsR k s (a + n) with
        | none => simp [hr] at h
        | some qs =>
          intro i h1 h2
          by_cases hi : i < a + n
          · have := first_print hf (i - a) (by omega)
            rwa [byteAt_extract s a (i - a) ha, show a + (i - a) = i by omega] at this
          · exact parts_print k s (a + n) qs (by omega) hr i (by omega) h2
    · intro i h1 h2; omega
theorem parse_print {p : ByteArray} {ps : List Part} (h : parseR p = .inr ps) : ∀ b ∈ p.data.toList, printB b.toNat := by
  unfold parseR at h
  split at h
  · cases h
  · split at h
    · cases h
    · split at h
      · cases h
      · rename_i qs hq
        intro b hb
        obtain ⟨i, hi, rfl⟩ := List.mem_iff_getElem.1 hb
        have := parts_print _ p 0 qs (Nat.zero_le _) hq i (Nat.zero_le _) (by rw [Lib.size_eq]; exact hi)
        unfold byteAt at this
        rwa [List.getD_eq_getElem?_getD, List.getElem?_eq_getElem hi, Option.getD_some] at this
theorem parse_size {p : ByteArray} {ps : List Part} (h : parseR p = .inr ps) : p.size ≤ 24 ∧ p.size ≠ 0 := by
  unfold parseR at h
  split at h
  · cases h
  · split at h
    · cases h
    · omega
end Go.Proofs.YtlgghomjlhnijaaGreat.Gl

/- What is written is read; what is read was written. -/
namespace Go.Proofs.YtlgghomjlhnijaaGreat

def I64 (n : Int) : Prop := -9223372036854775808 ≤ n ∧ n ≤ 9223372036854775807
theorem i64_small {n : Int} (h0 : 0 ≤ n) (h1 : n ≤ 4294967296) : I64 n := by unfold I64; omega
theorem i64_nat {k : Nat} (h : k ≤ 4294967296) : I64 (k : Int) := by unfold I64; omega
structure AcOk (a : ACT) : Prop where
  kind : I64 a.kind
  errno : I64 a.errno
structure NtOk (n : NT) : Prop where
  ip : n.ip < 4294967296
  bits : I64 n.bits
  lo : I64 n.lo
  hi : I64 n.hi
structure CdOk (c : CD) : Prop where
  arg : I64 c.arg
  op : I64 c.op
  v : c.v < 18446744073709551616
  m : c.m < 18446744073709551616
  net : NtOk c.net
structure RlOk (r : RL) : Prop where
  nr : I64 r.nr
  conds : ∀ c ∈ r.conds, CdOk c
  act : AcOk r.act
structure PlOk (p : POL) : Prop where
  rules : ∀ r ∈ p.rules, RlOk r
  els : AcOk p.els

theorem act_cases {a : ACT} (h : actF a = 0) : a = ⟨1, 0⟩ ∨ a = ⟨3, 0⟩ ∨ ∃ n : Nat, 1 ≤ n ∧ n ≤ 255 ∧ a = ⟨2, n⟩ := by
  obtain ⟨k, e⟩ := a
  unfold actF at h
  simp only at h
  split at h
  · cases h
  · split at h
    · cases h
    · split at h
      · cases h
      · rename_i h1 h2 h3
        rcases (by omega : k = 1 ∨ k = 3 ∨ k = 2) with rfl | rfl | rfl
        · left; congr; omega
        · right; left; congr; omega
        · right; right
          exact ⟨e.toNat, by omega, by omega, by congr; omega⟩
/-- What a right cond looks like. -/
inductive Shape : CD → Prop
  | num (a k v : Nat) (ha : a ≤ 3) (h1 : 1 ≤ k) (h6 : k ≤ 6) (hv : v < 18446744073709551616) : Shape ⟨a, k, v, 0, ByteArray.empty, noNet⟩
  | mask (a v m : Nat) (ha : a ≤ 3) (hv : v < 18446744073709551616) (hm : m < 18446744073709551616) : Shape ⟨a, 7, v, m, ByteArray.empty, noNet⟩
  | like (a : Nat) (g : ByteArray) (ha : a ≤ 3) (hg : globF g = 0) : Shape ⟨a, 8, 0, 0, g, noNet⟩
  | net (a ip b lo hi : Nat) (ha : a ≤ 3) (hip : ip < 4294967296) (hf : faultOf ip b lo hi = 0) : Shape ⟨a, 9, 0, 0, ByteArray.empty, ⟨ip, b, lo, hi⟩⟩
theorem empty_of {g : ByteArray} (h : g.size = 0) : g = ByteArray.empty := ByteArray.size_eq_zero_iff.1 h
theorem cond_shape {nr : Nat} {c : CD} (h : condF nr c = 0) (hc : CdOk c) : Shape c := by
  obtain ⟨arg, op, v, m, g, ⟨ip, b, lo, hi⟩⟩ := c
  obtain ⟨_, _, hv, hm, ⟨hip, _, _, _⟩⟩ := hc
  unfold condF at h
  simp only at h hv hm hip
  split at h
  · cases h
  · rename_i h0
    split at h
    · cases h
    · rename_i h1
      rw [not_or] at h1
      have hu := h1.2
      unfold unusedP netZ at hu
      simp only [not_or, not_and, Classical.not_not] at hu
      obtain ⟨u1, u2, u3, u4⟩ := hu
      obtain ⟨a, rfl⟩ : ∃ a : Nat, arg = a := ⟨arg.toNat, by omega⟩
      obtain ⟨k, rfl⟩ : ∃ k : Nat, op = k := ⟨op.toNat, by omega⟩
      have ha : a ≤ 3 := by omega
      by_cases k8 : k = 8
      · subst k8
        rw [if_pos (by omega)] at h
        obtain rfl : m = 0 := Classical.byContradiction fun e => by have := u1 e; omega
        obtain rfl : v = 0 := Classical.byContradiction fun e => by have := u2 e; omega
        obtain ⟨rfl, rfl, rfl, rfl⟩ : ip = 0 ∧ b = 0 ∧ lo = 0 ∧ hi = 0 := Classical.byContradiction fun e => by have := u4 (by simpa using e); omega
        exact Shape.like a g ha h
      · have eg := empty_of (Classical.byContradiction fun e => k8 (by have := u3 e; omega))
        subst eg
        by_cases k9 : k = 9
        · subst k9
          rw [if_neg (by omega), if_pos (by omega)] at h
          obtain rfl : m = 0 := Classical.byContradiction fun e => by have := u1 e; omega
          obtain rfl : v = 0 := Classical.byContradiction fun e => by have := u2 e; omega
          have hf := fault_ok (show faultOf ip b lo hi = 0 from h)
          obtain ⟨b, rfl⟩ : ∃ k : Nat, b = k := ⟨b.toNat, by omega⟩
          obtain ⟨lo, rfl⟩ : ∃ k : Nat, lo = k := ⟨lo.toNat, by omega⟩
          obtain ⟨hi, rfl⟩ : ∃ k : Nat, hi = k := ⟨hi.toNat, by omega⟩
          exact Shape.net a ip b lo hi ha hip h
        · obtain ⟨rfl, rfl, rfl, rfl⟩ : ip = 0 ∧ b = 0 ∧ lo = 0 ∧ hi = 0 := Classical.byContradiction fun e => by have := u4 (by simpa using e); omega
          by_cases k7 : k = 7
          · subst k7
            exact Shape.mask a v m ha hv hm
          · obtain rfl : m = 0 := Classical.byContradiction fun e => by have := u1 e; omega
            exact Shape.num a k v ha (by omega) (by omega) hv

theorem find_some {l : List W8} {w : W8} {i : Nat} (h : l.findIdx? (· == w) = some i) : l.getD i [] = w ∧ i < l.length := by
  obtain ⟨hi, h1, _⟩ := List.findIdx?_eq_some_iff_getElem.1 h
  refine ⟨?_, hi⟩
  rw [List.getD_eq_getElem?_getD, List.getElem?_eq_getElem hi, Option.getD_some]
  exact eq_of_beq h1
theorem call_some {w : W8} (h : ¬ findCall w < 0) : nameOf (findCall w) = w ∧ findCall w ≤ 8 := by
  unfold findCall at h ⊢
  cases hf : nameW.findIdx? (· == w) with
  | none => rw [hf] at h; exact absurd (by decide) h
  | some i =>
    have := find_some hf
    refine ⟨?_, ?_⟩
    · unfold nameOf
      simpa using this.1
    · have h2 := this.2
      simp [nameW] at h2 ⊢
      omega
theorem nine {k : Nat} (h : k ≤ 8) : k = 0 ∨ k = 1 ∨ k = 2 ∨ k = 3 ∨ k = 4 ∨ k = 5 ∨ k = 6 ∨ k = 7 ∨ k = 8 := by omega
theorem call_name {nr : Int} (h0 : 0 ≤ nr) (h8 : nr ≤ 8) : findCall (nameOf nr) = nr := by
  obtain ⟨k, rfl⟩ : ∃ k : Nat, nr = k := ⟨nr.toNat, by omega⟩
  rcases nine (show k ≤ 8 by omega) with rfl | rfl | rfl | rfl | rfl | rfl | rfl | rfl | rfl <;> decide
theorem six {k : Nat} (h1 : 1 ≤ k) (h6 : k ≤ 6) : k = 1 ∨ k = 2 ∨ k = 3 ∨ k = 4 ∨ k = 5 ∨ k = 6 := by omega
theorem op6_some {w : W8} (h : findOp6 w ≠ 0) : signOf (findOp6 w) = w ∧ findOp6 w ≤ 6 := by
  unfold findOp6 at h ⊢
  cases hf : (signW.take 6).findIdx? (· == w) with
  | none => rw [hf] at h; exact absurd rfl h
  | some i =>
    have h1 := find_some hf
    have h2 := h1.2
    simp [signW] at h2
    refine ⟨?_, by simp only; omega⟩
    rw [← h1.1]
    rcases six (k := i + 1) (by omega) (by omega) with h | h | h | h | h | h <;> (obtain rfl : i = _ := Nat.succ.inj h; rfl)

theorem trimQ_of {g : W8} (h : (34 : UInt8) ∉ g) : trimQ (34 :: (g ++ [34])) = g := by
  unfold trimQ Lib.trimB Lib.trimLeftB Lib.trimRightB
  have e : (34 :: (g ++ [34])).reverse = 34 :: (g.reverse ++ [34]) := by simp
  rw [e]
  cases hg : g.reverse with
  | nil =>
    have : g = [] := by simpa using hg
    subst this
    decide
  | cons x r =>
    have hx : x ≠ 34 := fun e => h (by rw [← List.mem_reverse, hg, e]; simp)
    have e1 : List.dropWhile (· == (34 : UInt8)) (34 :: (x :: r ++ [34])) = x :: r ++ [34] := by simp [hx]
    rw [e1, ← hg]
    simp only [List.reverse_append, List.reverse_reverse, List.reverse_cons, List.reverse_nil, List.nil_append, List.singleton_append]
    cases g with
    | nil => simp
    | cons y z =>
      have hy : y ≠ 34 := fun e => h (by simp [e])
      simp [hy]
theorem glob_print {g : ByteArray} (h : globF g = 0) : (∀ b ∈ g.data.toList, Gl.printB b.toNat) ∧ g.size ≤ 24 := by
  unfold globF at h
  cases hp : Gl.parseR g with
  | inl n =>
    rw [hp] at h
    simp only at h
    unfold Gl.parseR at hp
    repeat' split at hp
    all_goals simp at hp
    all_goals omega
  | inr ps => exact ⟨Gl.parse_print hp, (Gl.parse_size hp).1⟩
theorem glob_noquote {g : ByteArray} (h : globF g = 0) : (34 : UInt8) ∉ g.data.toList := fun hm => by
  have := ((glob_print h).1 34 hm).2.2
  exact this rfl

theorem readCond_cond {c : CD} (h : Shape c) (r : List W8) : readCond (condW c ++ r) = (c, r) := by
  cases h with
  | num a k v ha h1 h6 hv =>
    have e1 := numU_dec a (by omega)
    have e2 := numU_dec v hv
    have e3 := toI_small a (by omega)
    rcases six h1 h6 with rfl | rfl | rfl | rfl | rfl | rfl <;> simp [readCond, condW, signOf, signW, findOp, e1, e2, e3, List.findIdx?, List.findIdx?.go]
  | mask a v m ha hv hm =>
    have e1 := numU_dec a (by omega)
    have e2 := numU_dec v hv
    have e4 := numU_dec m hm
    have e3 := toI_small a (by omega)
    simp [readCond, condW, signOf, signW, findOp, e1, e2, e3, e4, List.findIdx?, List.findIdx?.go]
  | like a g ha hg =>
    have e1 := numU_dec a (by omega)
    have e3 := toI_small a (by omega)
    have e2 := trimQ_of (glob_noquote hg)
    simp [readCond, condW, signOf, signW, findOp, e1, e2, e3, List.findIdx?, List.findIdx?.go]
  | net a ip b lo hi ha hip hf =>
    have e1 := numU_dec a (by omega)
    have e3 := toI_small a (by omega)
    have e2 := parse_text hip hf
    simp [readCond, condW, signOf, signW, findOp, e1, e3, netRead, netW, e2, List.findIdx?, List.findIdx?.go]
theorem docCond_cond {c : CD} (h : Shape c) (r : List W8) : docCond (condW c ++ r) = some (c, (condW c).length) := by
  cases h with
  | num a k v ha h1 h6 hv =>
    have e1 := fig_dec a (by omega)
    have e2 := fig_dec v hv
    rcases six h1 h6 with rfl | rfl | rfl | rfl | rfl | rfl <;> simp [docCond, condW, signOf, signW, findOp6, e1, e2, ha, List.findIdx?, List.findIdx?.go]
  | mask a v m ha hv hm =>
    have e1 := fig_dec a (by omega)
    have e2 := fig_dec v hv
    have e4 := fig_dec m hm
    simp [docCond, docMask, condW, signOf, signW, e1, e2, e4, ha]
  | like a g ha hg =>
    have e1 := fig_dec a (by omega)
    have e2 : (34 :: (g.data.toList ++ [34])).getLast? = some (34 : UInt8) := by rw [← List.cons_append, List.getLast?_concat]
    simp [docCond, condW, signOf, signW, e1, ha, e2]
  | net a ip b lo hi ha hip hf =>
    have e1 := fig_dec a (by omega)
    have e2 := parse_text hip hf
    simp [docCond, condW, signOf, signW, e1, ha, netW, e2]
end Go.Proofs.YtlgghomjlhnijaaGreat

/- .. of whole policies. -/
namespace Go.Proofs.YtlgghomjlhnijaaGreat

theorem readAct_act {a : ACT} (h : actF a = 0) (r : List W8) : readAct (actW a ++ r) = (a, r) := by
  rcases act_cases h with rfl | rfl | ⟨n, h1, h2, rfl⟩
  · rfl
  · rfl
  · have e1 := numU_dec n (by omega)
    have e2 := toI_small n (by omega)
    simp [readAct, actW, wDeny, wAllow, wKill, e1, e2]
theorem docAct_act {a : ACT} (h : actF a = 0) (r : List W8) : docAct (actW a ++ r) = some (a, (actW a).length) := by
  rcases act_cases h with rfl | rfl | ⟨n, h1, h2, rfl⟩
  · rfl
  · rfl
  · have e1 := fig_dec n (by omega)
    have e2 : n < 1000 := by omega
    simp [docAct, docDeny, actW, wDeny, wAllow, wKill, e1, e2]
theorem actW_ne (a : ACT) : actW a ≠ [] := by
  unfold actW
  split
  · simp
  · split <;> simp
theorem docAct_some {l : List W8} {a : ACT} {n : Nat} (h : docAct l = some (a, n)) : l.take n = actW a ∧ 1 ≤ n ∧ n ≤ l.length ∧ AcOk a := by
  cases l with
  | nil => cases h
  | cons w r =>
    rw [docAct] at h
    split at h
    · rename_i e
      simp only [Option.some.injEq, Prod.mk.injEq] at h
      obtain ⟨rfl, rfl⟩ := h
      subst e
      exact ⟨rfl, by omega, by simp, ⟨i64_small (by decide) (by decide), i64_small (by decide) (by decide)⟩⟩
    · split at h
      · rename_i e
        simp only [Option.some.injEq, Prod.mk.injEq] at h
        obtain ⟨rfl, rfl⟩ := h
        subst e
        exact ⟨rfl, by omega, by simp, ⟨i64_small (by decide) (by decide), i64_small (by decide) (by decide)⟩⟩
      · split at h
        · rename_i e
          cases r with
          | nil => cases h
          | cons x t =>
            rw [docDeny] at h
            split at h
            · rename_i hx
              simp only [Option.some.injEq, Prod.mk.injEq] at h
              obtain ⟨rfl, rfl⟩ := h
              subst e
              have := fig_ok hx.1
              refine ⟨?_, by omega, by simp, ⟨i64_nat (k := 2) (by omega), i64_nat (by omega)⟩⟩
              simp only [actW, List.take_succ_cons, List.take_zero]
              rw [if_neg (by decide), if_neg (by decide)]
              simp only [Int.toNat_natCast]
              rw [← this]
            · cases h
        · cases h
theorem noNet_ok : NtOk noNet := ⟨by decide, i64_small (by decide) (by decide), i64_small (by decide) (by decide), i64_small (by decide) (by decide)⟩
theorem tail_quotes {x : W8} (h2 : 2 ≤ x.length) (h0 : x.head? = some 34) (h1 : x.getLast? = some 34) : x = 34 :: (x.tail.dropLast ++ [34]) := by
  cases x with
  | nil => simp at h2
  | cons a t =>
    simp only [List.head?_cons, Option.some.injEq] at h0
    subst h0
    have ht : t ≠ [] := fun e => by rw [e] at h2; simp at h2
    rw [List.getLast?_cons_of_ne_nil ht] at h1
    rw [List.tail_cons]
    obtain ⟨hne, hl⟩ := List.getLast?_eq_some_iff.1 h1 |> fun ⟨ys, e⟩ => (⟨ht, ⟨ys, e⟩⟩ : t ≠ [] ∧ ∃ ys, t = ys ++ [34])
    obtain ⟨ys, rfl⟩ := hl
    simp
theorem docCond_some {l : List W8} {c : CD} {n : Nat} (h : docCond l = some (c, n)) : l.take n = condW c ∧ 3 ≤ n ∧ n ≤ l.length ∧ CdOk c := by
  match l, h with
  | a :: s :: x :: r, h =>
    rw [docCond] at h
    split at h
    · rename_i ha
      have ea := fig_ok ha.1
      have hI : I64 (figN a : Int) := i64_nat (by omega)
      have hO : ∀ k : Nat, k ≤ 9 → I64 (k : Int) := fun k hk => i64_nat (by omega)
      split at h
      · rename_i es
        subst es
        match r, h with
        | y :: z :: t, h =>
          rw [docMask] at h
          split at h
          · rename_i hy
            simp only [Option.some.injEq, Prod.mk.injEq] at h
            obtain ⟨rfl, rfl⟩ := h
            have ex := fig_ok hy.2.1
            have ez := fig_ok hy.2.2
            refine ⟨?_, by omega, by simp, ⟨hI, hO 7 (by omega), figN_lt z, figN_lt x, noNet_ok⟩⟩
            rw [hy.1]
            simp [condW, signOf, signW, ← ea, ← ex, ← ez]
          · cases h
      · split at h
        · rename_i es
          subst es
          split at h
          · rename_i hq
            simp only [Option.some.injEq, Prod.mk.injEq] at h
            obtain ⟨rfl, rfl⟩ := h
            refine ⟨?_, by omega, by simp, ⟨hI, hO 8 (by omega), by simp, by simp, noNet_ok⟩⟩
            have := tail_quotes hq.1 hq.2.1 hq.2.2
            simp [condW, signOf, signW, ← ea, ← this]
          · cases h
        · split at h
          · rename_i es
            subst es
            split at h
            · rename_i ip b lo hi hp
              simp only [Option.some.injEq, Prod.mk.injEq] at h
              obtain ⟨rfl, rfl⟩ := h
              obtain ⟨hip, hf, hx⟩ := parse_some hp
              have hk := fault_ok hf
              refine ⟨?_, by omega, by simp, ⟨hI, hO 9 (by omega), by simp, by simp, ⟨hip, i64_nat (by omega), i64_nat (by omega), i64_nat (by omega)⟩⟩⟩
              simp [condW, signOf, signW, ← ea, netW, hx]
            · cases h
          · split at h
            · rename_i ho
              simp only [Option.some.injEq, Prod.mk.injEq] at h
              obtain ⟨rfl, rfl⟩ := h
              have hs := op6_some ho.1
              have ex := fig_ok ho.2
              refine ⟨?_, by omega, by simp, ⟨hI, hO _ (by omega), figN_lt x, by simp, noNet_ok⟩⟩
              have n7 : ¬ ((findOp6 s : Int) = 7) := by omega
              have n8 : ¬ ((findOp6 s : Int) = 8) := by omega
              have n9 : ¬ ((findOp6 s : Int) = 9) := by omega
              simp only [condW, if_neg n7, if_neg n8, if_neg n9, hs.1, Int.toNat_natCast, ← ea, ← ex]
              rfl
            · cases h
    · cases h

/-- All conds of a list are right, for some call. -/
def ShapeAll (cs : List CD) : Prop := ∀ c ∈ cs, Shape c
theorem condW_ne (c : CD) : condW c ≠ [] := by unfold condW; simp
theorem condW_pos (c : CD) : 3 ≤ (condW c).length := by
  unfold condW
  split
  · simp
  · split
    · simp
    · split <;> simp
theorem readConds_conds : ∀ (cs : List CD) (f : Bool) (n : Nat), ShapeAll cs → (condsW f cs).length ≤ n → readConds n (condsW f cs) = cs
  | [], _, n, _, _ => by cases n <;> simp [condsW, readConds]
  | c :: r, f, n, h, hn => by
    cases n with
    | zero => simp [condsW] at hn
    | succ n =>
      rw [condsW] at hn ⊢
      rw [readConds, if_neg (by simp), List.tail_cons, readCond_cond (h c (by simp))]
      simp only [List.length_cons, List.length_append] at hn
      rw [readConds_conds r false n (fun x hx => h x (by simp [hx])) (by omega)]
theorem docConds_conds : ∀ (cs : List CD) (f : Bool) (n : Nat), ShapeAll cs → (condsW f cs).length ≤ n → docConds n f (condsW f cs) = some cs
  | [], _, n, _, _ => by cases n <;> simp [condsW, docConds]
  | c :: r, f, n, h, hn => by
    cases n with
    | zero => simp [condsW] at hn
    | succ n =>
      rw [condsW] at hn ⊢
      simp only [List.length_cons, List.length_append] at hn
      rw [docConds]
      simp only [if_true, docCond_cond (h c (by simp)), List.drop_left, docConds_conds r false n (fun x hx => h x (by simp [hx])) (by omega)]
      rfl
theorem docConds_some : ∀ (n : Nat) (f : Bool) (l : List W8) (cs : List CD), docConds n f l = some cs → condsW f cs = l ∧ ∀ c ∈ cs, CdOk c
  | n, f, [], cs, h => by
    rw [docConds] at h
    simp only [Option.some.injEq] at h
    subst h
    exact ⟨rfl, fun c hc => by cases hc⟩
  | 0, f, w :: r, cs, h => by
    rw [docConds] at h
    cases h
  | n + 1, f, w :: r, cs, h => by
      rw [docConds] at h
      by_cases e : w = if f then wIf else wAnd
      · rw [if_pos e] at h
        cases hk : docCond r with
        | none => rw [hk] at h; cases h
        | some ck =>
          obtain ⟨c, k⟩ := ck
          rw [hk] at h
          simp only at h
          cases hd : docConds n false (r.drop k) with
          | none => rw [hd] at h; cases h
          | some ds =>
            rw [hd] at h
            simp only [Option.map_some, Option.some.injEq] at h
            subst h
            have h1 := docCond_some hk
            have h2 := docConds_some n false _ ds hd
            refine ⟨?_, fun x hx => ?_⟩
            · rw [condsW, ← e, ← h1.1, h2.1, List.take_append_drop]
            · rcases List.mem_cons.1 hx with rfl | hx
              · exact h1.2.2.2
              · exact h2.2 x hx
      · rw [if_neg e] at h; cases h

/-- What a right rule is. -/
structure RuleOk (r : RL) : Prop where
  nr0 : 0 ≤ r.nr
  nr8 : r.nr ≤ 8
  few : r.conds.length ≤ 4
  conds : ShapeAll r.conds
  act : actF r.act = 0
theorem rule_ok {r : RL} (h : ruleF r = 0) (hr : RlOk r) : RuleOk r := by
  unfold ruleF at h
  split at h
  · cases h
  · split at h
    · cases h
    · split at h
      · rename_i h0 h1 h2
        refine ⟨by omega, by omega, by omega, fun c hc => ?_, h⟩
        exact cond_shape ((firstF_zero.1 h2) _ (List.mem_map.2 ⟨c, hc, rfl⟩)) (hr.conds c hc)
      · rename_i h3
        exact absurd h h3
structure PolOk (p : POL) : Prop where
  few : p.rules.length ≤ 12
  rules : ∀ r ∈ p.rules, RuleOk r
  els : actF p.els = 0
theorem pol_ok {p : POL} (h : polF p = 0) (hp : PlOk p) : PolOk p := by
  unfold polF at h
  split at h
  · cases h
  · split at h
    · rename_i h0 h1
      exact ⟨by omega, fun r hr => rule_ok ((firstF_zero.1 h) _ (List.mem_map.2 ⟨r, hr, rfl⟩)) (hp.rules r hr), h1⟩
    · rename_i h2
      exact absurd h h2

theorem ruleW_ne (r : RL) : ruleW r ≠ [] := by unfold ruleW; simp
/-- No word has a blank or an end of line. -/
def Plain (w : W8) : Prop := (32 : UInt8) ∉ w ∧ (10 : UInt8) ∉ w
theorem plain_of {w : W8} (h : ∀ b ∈ w, 33 ≤ b.toNat) : Plain w := ⟨fun hm => by have := h 32 hm; simp at this, fun hm => by have := h 10 hm; simp at this⟩
theorem dig_33 {w : W8} (h : w.all isDig = true) : ∀ b ∈ w, 33 ≤ b.toNat := fun b hb => by
  have := List.all_eq_true.1 h b hb
  unfold isDig at this
  rw [Bool.and_eq_true, decide_eq_true_eq] at this
  omega
theorem dec_33 (n : Nat) : ∀ b ∈ Lib.decDigits n, 33 ≤ b.toNat := dig_33 (dec_all n)
theorem joinN_33 : ∀ (cs : List UInt8) (ns : List Nat), (∀ c ∈ cs, 33 ≤ c.toNat) → ∀ b ∈ joinN cs ns, 33 ≤ b.toNat
  | _, [], _, b, hb => by simp [joinN] at hb
  | [], n :: r, _, b, hb => dec_33 n b (by simpa [joinN] using hb)
  | c :: cs, n :: r, h, b, hb => by
    simp only [joinN, List.mem_append, List.mem_cons] at hb
    rcases hb with hb | rfl | hb
    · exact dec_33 n b hb
    · exact h _ (by simp)
    · exact joinN_33 cs r (fun x hx => h x (by simp [hx])) b hb
theorem actW_plain {a : ACT} (w : W8) (hw : w ∈ actW a) : Plain w := by
  unfold actW at hw
  apply plain_of
  split at hw
  · rw [List.mem_singleton] at hw; subst hw; decide
  · split at hw
    · rw [List.mem_singleton] at hw; subst hw; decide
    · simp only [List.mem_cons, List.not_mem_nil, or_false] at hw
      rcases hw with rfl | rfl
      · decide
      · exact dec_33 _
theorem condW_plain {c : CD} (h : Shape c) (w : W8) (hw : w ∈ condW c) : Plain w := by
  apply plain_of
  cases h with
  | num a k v ha h1 h6 hv =>
    rcases six h1 h6 with rfl | rfl | rfl | rfl | rfl | rfl <;>
    · simp [condW, signOf, signW] at hw
      rcases hw with rfl | rfl | rfl
      · exact dec_33 _
      · decide
      · exact dec_33 _
  | mask a v m ha hv hm =>
    simp [condW, signOf, signW] at hw
    rcases hw with rfl | rfl | rfl | rfl | rfl
    · exact dec_33 _
    · decide
    · exact dec_33 _
    · decide
    · exact dec_33 _
  | like a g ha hg =>
    simp [condW, signOf, signW] at hw
    rcases hw with rfl | rfl | rfl
    · exact dec_33 _
    · decide
    · intro b hb
      simp only [List.mem_cons, List.mem_append, List.not_mem_nil, or_false] at hb
      rcases hb with rfl | hb | rfl
      · decide
      · exact ((glob_print hg).1 b (by simpa using hb)).1
      · decide
  | net a ip b lo hi ha hip hf =>
    simp [condW, signOf, signW] at hw
    rcases hw with rfl | rfl | rfl
    · exact dec_33 _
    · decide
    · exact joinN_33 _ _ (by decide)
theorem condsW_plain : ∀ (cs : List CD) (f : Bool), ShapeAll cs → ∀ w ∈ condsW f cs, Plain w
  | [], _, _, w, hw => by cases hw
  | c :: r, f, h, w, hw => by
    simp only [condsW, List.mem_cons, List.mem_append] at hw
    rcases hw with rfl | hw | hw
    · cases f
      · exact plain_of (by decide)
      · exact plain_of (by decide)
    · exact condW_plain (h c (by simp)) w hw
    · exact condsW_plain r false (fun x hx => h x (by simp [hx])) w hw
theorem name_plain {nr : Int} (h0 : 0 ≤ nr) (h8 : nr ≤ 8) : Plain (nameOf nr) := by
  obtain ⟨k, rfl⟩ : ∃ k : Nat, nr = k := ⟨nr.toNat, by omega⟩
  rcases nine (show k ≤ 8 by omega) with rfl | rfl | rfl | rfl | rfl | rfl | rfl | rfl | rfl <;> exact plain_of (by decide)
theorem ruleW_plain {r : RL} (h : RuleOk r) (w : W8) (hw : w ∈ ruleW r) : Plain w := by
  simp only [ruleW, List.mem_append, List.mem_cons] at hw
  rcases hw with hw | rfl | hw
  · exact actW_plain w hw
  · exact name_plain h.nr0 h.nr8
  · exact condsW_plain _ _ h.conds w hw
theorem join_notin (c x : UInt8) (hx : x ≠ c) : ∀ ws : List W8, (∀ w ∈ ws, x ∉ w) → x ∉ joinC c ws
  | [], _ => by simp [joinC]
  | [w], h => h w (by simp)
  | w :: y :: r, h => by
    rw [joinC]
    simp only [List.mem_append, List.mem_cons, not_or]
    exact ⟨h w (by simp), hx, join_notin c x hx (y :: r) fun v hv => h v (by simp [hv])⟩

theorem readRule_rule {r : RL} (h : RuleOk r) : readRule (joinC 32 (ruleW r)) = r := by
  have e := split_join 32 (ruleW r) (ruleW_ne r) fun w hw => (ruleW_plain h w hw).1
  unfold readRule
  simp only [e]
  unfold ruleW
  rw [readAct_act h.act]
  simp only [List.headD_cons, List.tail_cons, call_name h.nr0 h.nr8, readConds_conds r.conds true _ h.conds (Nat.le_refl _)]
theorem docRule_rule {r : RL} (h : RuleOk r) : docRule (ruleW r) = some r := by
  unfold docRule
  have e1 : docAct (ruleW r) = some (r.act, (actW r.act).length) := docAct_act h.act _
  have e2 : (ruleW r).drop ((actW r.act).length + 1) = condsW true r.conds := by
    unfold ruleW
    rw [List.drop_append, List.drop_eq_nil_of_le (by omega)]
    simp
  have e3 : (ruleW r).getD (actW r.act).length [] = nameOf r.nr := by
    unfold ruleW
    rw [List.getD_eq_getElem?_getD, List.getElem?_append_right (Nat.le_refl _)]
    simp
  have hl : (ruleW r).length = (actW r.act).length + 1 + (condsW true r.conds).length := by unfold ruleW; simp; omega
  rw [e1]
  simp only
  rw [if_pos (by omega), e2, docConds_conds r.conds true _ h.conds (by omega), e3, call_name h.nr0 h.nr8]
  simp only
  rw [if_neg (by have := h.nr0; omega)]
theorem docRule_some {l : List W8} {r : RL} (h : docRule l = some r) : ruleW r = l ∧ RlOk r := by
  unfold docRule at h
  split at h
  · rename_i a n ha
    have h1 := docAct_some ha
    split at h
    · rename_i hn
      split at h
      · rename_i cs hc
        have h2 := docConds_some _ _ _ _ hc
        split at h
        · cases h
        · rename_i hcall
          simp only [Option.some.injEq] at h
          subst h
          have h3 := call_some hcall
          refine ⟨?_, ⟨i64_small (by simp only; omega) (by simp only; omega), h2.2, h1.2.2.2⟩⟩
          unfold ruleW
          simp only
          rw [h2.1, h3.1, ← h1.1, List.getD_eq_getElem?_getD, List.getElem?_eq_getElem hn, Option.getD_some, List.getElem_cons_drop, List.take_append_drop]
      · cases h
    · cases h
  · cases h

/-- The lines of a policy's text. -/
def linesP (p : POL) : List W8 := joinC 32 (wElse :: actW p.els) :: p.rules.map fun r => joinC 32 (ruleW r)
theorem textP_lines (p : POL) : textP p = (linesP p).flatMap fun w => w ++ [10] := by
  unfold textP linesP
  simp [List.flatMap_map]
theorem head_plain (a : ACT) (w : W8) (hw : w ∈ wElse :: actW a) : Plain w := by
  rcases List.mem_cons.1 hw with rfl | hw
  · exact plain_of (by decide)
  · exact actW_plain w hw
theorem linesP_plain {p : POL} (h : PolOk p) (w : W8) (hw : w ∈ linesP p) : (10 : UInt8) ∉ w := by
  unfold linesP at hw
  rcases List.mem_cons.1 hw with rfl | hw
  · exact join_notin 32 10 (by decide) _ fun v hv => (head_plain _ v hv).2
  · obtain ⟨r, hr, rfl⟩ := List.mem_map.1 hw
    exact join_notin 32 10 (by decide) _ fun v hv => (ruleW_plain (h.rules r hr) v hv).2
theorem trimN_text (p : POL) : trimN (textP p) = joinC 10 (linesP p) := by
  have e : textP p = joinC 10 (linesP p) ++ [10] := by
    rw [textP_lines, ← lines_join 10, join_app 10 [[]] (by simp) _ (by unfold linesP; simp)]
    rfl
  unfold trimN Lib.trimSuffix
  rw [e, if_pos (by simp [Lib.hasSuffix])]
  simp
/-- T1: what is written is read as it was, by the code. -/
theorem readP_text {p : POL} (h : PolOk p) : readP (textP p) = p := by
  unfold readP
  rw [trimN_text, split_join 10 (linesP p) (by unfold linesP; simp) (linesP_plain h)]
  have e1 : (linesP p).headD [] = joinC 32 (wElse :: actW p.els) := rfl
  have e2 : (linesP p).tail = p.rules.map fun r => joinC 32 (ruleW r) := rfl
  have e4 : (readAct (actW p.els)).1 = p.els := by
    have := readAct_act h.els []
    rw [List.append_nil] at this
    rw [this]
  rw [e1, e2, split_join 32 _ (by simp) fun w hw => (head_plain _ w hw).1, List.tail_cons, e4, List.map_map]
  have e3 : p.rules.map (readRule ∘ fun r => joinC 32 (ruleW r)) = p.rules := by
    have : p.rules.map (readRule ∘ fun r => joinC 32 (ruleW r)) = p.rules.map id := List.map_congr_left fun r hr => readRule_rule (h.rules r hr)
    rw [this, List.map_id]
  rw [e3]
theorem docRules_map : ∀ rs : List RL, (∀ r ∈ rs, RuleOk r) → docRules (rs.map fun r => joinC 32 (ruleW r)) = some rs
  | [], _ => rfl
  | r :: t, h => by
    rw [List.map_cons, docRules, split_join 32 (ruleW r) (ruleW_ne r) fun w hw => (ruleW_plain (h r (by simp)) w hw).1, docRule_rule (h r (by simp)), docRules_map t fun x hx => h x (by simp [hx])]
    rfl
theorem docRules_some : ∀ (ls : List W8) (rs : List RL), docRules ls = some rs → (rs.map fun r => joinC 32 (ruleW r)) = ls ∧ ∀ r ∈ rs, RlOk r
  | [], rs, h => by
    simp only [docRules, Option.some.injEq] at h
    subst h
    exact ⟨rfl, fun r hr => by cases hr⟩
  | w :: t, rs, h => by
    rw [docRules] at h
    split at h
    · rename_i x hx
      cases hd : docRules t with
      | none => rw [hd] at h; cases h
      | some ys =>
        rw [hd] at h
        simp only [Option.map_some, Option.some.injEq] at h
        subst h
        have h1 := docRule_some hx
        have h2 := docRules_some t ys hd
        refine ⟨?_, fun r hr => ?_⟩
        · rw [List.map_cons, h2.1, h1.1, join_split]
        · rcases List.mem_cons.1 hr with rfl | hr
          · exact h1.2
          · exact h2.2 r hr
    · cases h
/-- T2: .. by the document. -/
theorem docP_text {p : POL} (h : PolOk p) (hf : polF p = 0) : docP (textP p) = some p := by
  unfold docP
  rw [textP_lines, split_lines 10 _ (linesP_plain h)]
  have hl : (linesP p ++ [[]]).length = p.rules.length + 2 := by unfold linesP; simp
  have h12 := h.few
  have e1 : (linesP p ++ [[]]).headD [] = joinC 32 (wElse :: actW p.els) := rfl
  have e2 : (linesP p ++ [[]]).tail.dropLast = p.rules.map fun r => joinC 32 (ruleW r) := by unfold linesP; simp
  simp only
  rw [if_neg (by rw [hl]; simp; omega), e1, e2, split_join 32 _ (by simp) fun w hw => (head_plain _ w hw).1, docRules_map p.rules h.rules]
  have e3 : docHead (wElse :: actW p.els) = some p.els := by
    have := docAct_act h.els []
    rw [List.append_nil] at this
    unfold docHead
    simp only [if_true, this]
  rw [e3]
  simp only
  rw [if_pos hf]
/-- T3: what the document reads is the text of what it reads. -/
theorem docP_some {s : W8} {p : POL} (h : docP s = some p) : textP p = s ∧ polF p = 0 ∧ PlOk p := by
  unfold docP at h
  simp only at h
  split at h
  · cases h
  · rename_i hc
    simp only [not_or, Nat.not_lt, Decidable.not_not] at hc
    obtain ⟨h2, _, hlast⟩ := hc
    split at h
    · rename_i a ha
      split at h
      · rename_i rs hrs
        split at h
        · rename_i hf
          simp only [Option.some.injEq] at h
          subst h
          have h1 := docRules_some _ _ hrs
          have hb : AcOk a ∧ joinC 32 (wElse :: actW a) = (splitC 10 s).headD [] := by
            unfold docHead at ha
            split at ha
            · cases ha
            · rename_i w r hw
              split at ha
              · rename_i ew
                split at ha
                · rename_i b n hn
                  split at ha
                  · rename_i en
                    simp only [Option.some.injEq] at ha
                    subst ha
                    have h3 := docAct_some hn
                    refine ⟨h3.2.2.2, ?_⟩
                    rw [← h3.1, en, List.take_length, ← ew, ← hw, join_split]
                  · cases ha
                · cases ha
              · cases ha
          refine ⟨?_, hf, ⟨h1.2, hb.1⟩⟩
          rw [textP_lines]
          unfold linesP
          simp only
          rw [h1.1, hb.2]
          obtain ⟨ys, hys⟩ := List.getLast?_eq_some_iff.1 hlast
          cases ys with
          | nil => rw [hys] at h2; simp at h2
          | cons y t =>
            rw [hys]
            simp only [List.cons_append, List.headD_cons, List.tail_cons, List.dropLast_concat]
            rw [← lines_join 10 (y :: t), List.cons_append, ← List.cons_append, ← hys, join_split]
        · cases h
      · cases h
    · cases h
/-- The code's answer is the document's. -/
theorem parse_same (s : W8) (hp : PlOk (readP s)) : (if polF (readP s) = 0 ∧ textP (readP s) = s then some (readP s) else none) = docP s := by
  split
  · rename_i h
    have := docP_text (pol_ok h.1 hp) h.1
    rw [h.2] at this
    exact this.symm
  · rename_i h
    cases hd : docP s with
    | none => rfl
    | some p =>
      obtain ⟨h1, h2, h3⟩ := docP_some hd
      have hr := readP_text (pol_ok h2 h3)
      rw [h1] at hr
      exact absurd ⟨by rw [hr]; exact h2, by rw [hr]; exact h1⟩ h
end Go.Proofs.YtlgghomjlhnijaaGreat
