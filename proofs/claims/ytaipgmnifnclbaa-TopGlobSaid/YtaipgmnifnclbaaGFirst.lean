/- The walk of glob.first. -/
import Derived.Test.YtaipgmnifnclbaaGEsc
namespace Go.Proofs.Ytaipgmnifnclbaa
open Go.RowKit
attribute [local go_sem] LA_set LA_get LA_size LA_at

def starsB (s : ByteArray) : Bool := decide (2 ≤ s.size) && byteAt s 0 == 42 && byteAt s 1 == 42
def notF (f : Nat → Bool) : Nat → Bool := fun i => !f i
def classP (s : ByteArray) : Option ((Nat → Bool) × Bool × Nat) := (classR s).map fun x => (x.1, false, x.2)
theorem classV_eq (s : ByteArray) : classV s = partV (classP s) := by
  unfold classV classP
  cases classR s with
  | none => rfl
  | some x => rfl

/-- The part that a text begins with. -/
def firstR (s : ByteArray) : Option ((Nat → Bool) × Bool × Nat) :=
  if starsB s = true then some (notF fun _ => false, true, 2)
  else if byteAt s 0 = 42 then some (notF (onlyF 47), true, 1)
  else if byteAt s 0 = 63 then some (notF (onlyF 47), false, 1)
  else if byteAt s 0 = 91 then classP s
  else if byteAt s 0 = 92 then escR s
  else if plainB (byteAt s 0) = true then some (onlyF (byteAt s 0), false, 1)
  else none

theorem hasPrefix_two (s : ByteArray) : Lib.hasPrefix s.data.toList [42, 42] = starsB s := by
  unfold starsB byteAt
  rw [Lib.size_eq]
  cases h : s.data.toList with
  | nil => simp [Lib.hasPrefix]
  | cons a l =>
    cases l with
    | nil => simp [Lib.hasPrefix, List.isPrefixOf]
    | cons b l =>
      simp only [Lib.hasPrefix, List.isPrefixOf, List.getD_cons_zero, List.getD_cons_succ, List.length_cons]
      rw [Bool.eq_iff_iff]
      simp only [Bool.and_true, Bool.and_eq_true, beq_iff_eq, decide_eq_true_eq, ← UInt8.toNat_inj]
      constructor
      · rintro ⟨h1, h2⟩
        exact ⟨⟨by omega, h1.symm⟩, h2.symm⟩
      · rintro ⟨⟨_, h1⟩, h2⟩
        exact ⟨h1.symm, h2.symm⟩

theorem prefix_stars (s : ByteArray) (w : World) :
    Calls Try.prog 22 #[.string s, .string ⟨#[42, 42]⟩] w fun e w' => e = .returned (.bool (starsB s)) ∧ w' = w :=
  (strings_HasPrefix s ⟨#[42, 42]⟩ w).mono fun e w' ⟨he, hw⟩ => ⟨by rw [he]; exact ret_bool (hasPrefix_two s), hw⟩

/-- Two calls, one behind the other, over the block of the part. -/
theorem PW_two {w W V : World} (h : Below (PW w).heap.size (PW w) W) (k : Below W.heap.size W V) : Below (PW w).heap.size (PW w) V := h.trans (k.mono h.size)

set_option maxRecDepth 10000 in
set_option maxHeartbeats 400000 in
theorem first_stars (s : ByteArray) (hs : 1 ≤ s.size) (hz : s.size ≤ 1000) (st : starsB s = true) (w : World) :
    Calls Try.prog 18 #[.string s] w fun e w' => e = .returned (partV (firstR s)) ∧ Below w.heap.size w w' := by
  have hR : firstR s = some (notF fun _ => false, true, 2) := by unfold firstR; rw [if_pos st]
  have HR := hide hR
  clear hR
  have zp := zv_part
  have e0 := byteAt_eq s 0 (by omega)
  have b0 := byteAt_lt s 0
  have zl := zv_like
  go_enter Try.func18, Try.ntmps18
  go_wp2_with (first
    | (go_at_call 22; refine (prefix_stars s _).mono ?_; rintro e w' ⟨rfl, rfl⟩)
    | (go_at_call 23; refine (others_any (fun _ => false) _).mono ?_; rintro e W ⟨rfl, hW⟩)
    | (refine wpList_build_two rfl 47 _ _ _ _ rfl (.agg (LA 256 (notF fun _ => false))) (.bool true) ?_ ?_ _ (built_part2 _ _) ?_; (· rfl); (· rfl))
    | (refine wpList_store_LA 47 257 rfl _ _ rfl w.heap.size ?_ (PF (notF fun _ => false) true) ?_ size_part (fun _ => false) 47 ?_ ?_; (· rfl); (· rfl); (· exact PW_later hW))
    | (refine bodyPost_ret (results_part rfl _ _ w.heap.size (PF (notF fun _ => false) true) (.int .i64 2) 47 rfl rfl (heap_setRow_same _ (PW_later hW))) rfl ⟨?_, ?_⟩; (· rw [HR.out]; rfl); (· exact below_setRow (PW_belowLater hW) (Nat.le_refl _) _)))

set_option maxRecDepth 10000 in
set_option maxHeartbeats 400000 in
theorem first_star (s : ByteArray) (hs : 1 ≤ s.size) (hz : s.size ≤ 1000) (st : starsB s = false)  (h42 : byteAt s 0 = 42) (w : World) :
    Calls Try.prog 18 #[.string s] w fun e w' => e = .returned (partV (firstR s)) ∧ Below w.heap.size w w' := by
  have hR : firstR s = some (notF (onlyF 47), true, 1) := by unfold firstR; rw [if_neg (by rw [st]; simp)]; rw [if_pos h42]
  have HR := hide hR
  clear hR
  have zp := zv_part
  have e0 := byteAt_eq s 0 (by omega)
  have b0 := byteAt_lt s 0
  have c42 : ((byteAt s 0 : Int) == 42) = true := by rw [beq_iff_eq]; omega
  clear h42
  go_enter Try.func18, Try.ntmps18
  go_wp2_with (first
    | (go_at_call 22; refine (prefix_stars s _).mono ?_; rintro e w' ⟨rfl, rfl⟩)
    | (go_at_call 24; refine (only_any 47 (by omega) _).mono ?_; rintro e W ⟨rfl, hW⟩)
    | (go_at_call 23; refine (others_any (onlyF 47) _).mono ?_; rintro e V ⟨rfl, hV⟩)
    | (refine wpList_build_two rfl 47 _ _ _ _ rfl (.agg (LA 256 (notF (onlyF 47)))) (.bool true) ?_ ?_ _ (built_part2 _ _) ?_; (· rfl); (· rfl))
    | (refine wpList_store_LA 47 257 rfl _ _ rfl w.heap.size ?_ (PF (notF (onlyF 47)) true) ?_ size_part (fun _ => false) 47 ?_ ?_; (· rfl); (· rfl); (· exact PW_later (PW_two hW hV)))
    | (refine bodyPost_ret (results_part rfl _ _ w.heap.size (PF (notF (onlyF 47)) true) (.int .i64 1) 47 rfl rfl (heap_setRow_same _ (PW_later (PW_two hW hV)))) rfl ⟨?_, ?_⟩; (· rw [HR.out]; rfl); (· exact below_setRow (PW_belowLater (PW_two hW hV)) (Nat.le_refl _) _)))

set_option maxRecDepth 10000 in
set_option maxHeartbeats 400000 in
theorem first_quest (s : ByteArray) (hs : 1 ≤ s.size) (hz : s.size ≤ 1000) (st : starsB s = false) (n42 : byteAt s 0 ≠ 42) (h63 : byteAt s 0 = 63) (w : World) :
    Calls Try.prog 18 #[.string s] w fun e w' => e = .returned (partV (firstR s)) ∧ Below w.heap.size w w' := by
  have hR : firstR s = some (notF (onlyF 47), false, 1) := by unfold firstR; rw [if_neg (by rw [st]; simp)]; rw [if_neg n42, if_pos h63]
  have HR := hide hR
  clear hR
  have zp := zv_part
  have e0 := byteAt_eq s 0 (by omega)
  have b0 := byteAt_lt s 0
  have c42 : ((byteAt s 0 : Int) == 42) = false := by rw [beq_eq_false_iff_ne]; omega
  have c63 : ((byteAt s 0 : Int) == 63) = true := by rw [beq_iff_eq]; omega
  clear h63
  go_enter Try.func18, Try.ntmps18
  go_wp2_with (first
    | (go_at_call 22; refine (prefix_stars s _).mono ?_; rintro e w' ⟨rfl, rfl⟩)
    | (go_at_call 24; refine (only_any 47 (by omega) _).mono ?_; rintro e W ⟨rfl, hW⟩)
    | (go_at_call 23; refine (others_any (onlyF 47) _).mono ?_; rintro e V ⟨rfl, hV⟩)
    | (refine wpList_build_one rfl 47 _ _ rfl (.agg (LA 256 (notF (onlyF 47)))) ?_ _ (built_part1 _) ?_; (· rfl))
    | (refine wpList_store_LA 47 257 rfl _ _ rfl w.heap.size ?_ (PF (notF (onlyF 47)) false) ?_ size_part (fun _ => false) 47 ?_ ?_; (· rfl); (· rfl); (· exact PW_later (PW_two hW hV)))
    | (refine bodyPost_ret (results_part rfl _ _ w.heap.size (PF (notF (onlyF 47)) false) (.int .i64 1) 47 rfl rfl (heap_setRow_same _ (PW_later (PW_two hW hV)))) rfl ⟨?_, ?_⟩; (· rw [HR.out]; rfl); (· exact below_setRow (PW_belowLater (PW_two hW hV)) (Nat.le_refl _) _)))

set_option maxRecDepth 10000 in
set_option maxHeartbeats 400000 in
theorem first_class_none (s : ByteArray) (hs : 1 ≤ s.size) (hz : s.size ≤ 1000) (st : starsB s = false) (n42 : byteAt s 0 ≠ 42) (n63 : byteAt s 0 ≠ 63) (h91 : byteAt s 0 = 91) (hP : classP s = none) (w : World) :
    Calls Try.prog 18 #[.string s] w fun e w' => e = .returned (partV (firstR s)) ∧ Below w.heap.size w w' := by
  have hR : firstR s = none := by unfold firstR; rw [if_neg (by rw [st]; simp)]; rw [if_neg n42, if_neg n63, if_pos h91]; exact hP
  have HR := hide hR
  clear hR
  have zp := zv_part
  have e0 := byteAt_eq s 0 (by omega)
  have b0 := byteAt_lt s 0
  have c42 : ((byteAt s 0 : Int) == 42) = false := by rw [beq_eq_false_iff_ne]; omega
  have c63 : ((byteAt s 0 : Int) == 63) = false := by rw [beq_eq_false_iff_ne]; omega
  have c91 : ((byteAt s 0 : Int) == 91) = true := by rw [beq_iff_eq]; omega
  clear h91
  have HV := hide (show classV s = .tuple #[.agg (LA 257 (fun _ => false)), .int .i64 0] from by rw [classV_eq, hP]; rfl)
  clear hP
  go_enter Try.func18, Try.ntmps18
  go_wp2_with (first
    | (go_at_call 22; refine (prefix_stars s _).mono ?_; rintro e w' ⟨rfl, rfl⟩)
    | (go_at_call 25; refine (class_any s hs hz _).mono ?_; rintro e W ⟨rfl, hW⟩; rw [HV.out])
    | (refine wpList_store_LA 47 257 rfl _ _ rfl w.heap.size ?_ (fun _ => false) ?_ size_part (fun _ => false) 47 ?_ ?_; (· rfl); (· rfl); (· exact PW_later hW))
    | (refine bodyPost_ret (results_part rfl _ _ w.heap.size (fun _ => false) (.int .i64 0) 47 rfl rfl (heap_setRow_same _ (PW_later hW))) rfl ⟨?_, ?_⟩; (· rw [HR.out]; rfl); (· exact below_setRow (PW_belowLater hW) (Nat.le_refl _) _)))

set_option maxRecDepth 10000 in
set_option maxHeartbeats 400000 in
theorem first_class_some (s : ByteArray) (hs : 1 ≤ s.size) (hz : s.size ≤ 1000) (st : starsB s = false) (n42 : byteAt s 0 ≠ 42) (n63 : byteAt s 0 ≠ 63) (h91 : byteAt s 0 = 91) (f : Nat → Bool) (m : Bool) (n : Nat) (hP : classP s = some (f, m, n)) (w : World) :
    Calls Try.prog 18 #[.string s] w fun e w' => e = .returned (partV (firstR s)) ∧ Below w.heap.size w w' := by
  have hR : firstR s = some (f, m, n) := by unfold firstR; rw [if_neg (by rw [st]; simp)]; rw [if_neg n42, if_neg n63, if_pos h91]; exact hP
  have HR := hide hR
  clear hR
  have zp := zv_part
  have e0 := byteAt_eq s 0 (by omega)
  have b0 := byteAt_lt s 0
  have c42 : ((byteAt s 0 : Int) == 42) = false := by rw [beq_eq_false_iff_ne]; omega
  have c63 : ((byteAt s 0 : Int) == 63) = false := by rw [beq_eq_false_iff_ne]; omega
  have c91 : ((byteAt s 0 : Int) == 91) = true := by rw [beq_iff_eq]; omega
  clear h91
  have HV := hide (show classV s = .tuple #[.agg (LA 257 (PF f m)), .int .i64 n] from by rw [classV_eq, hP]; rfl)
  clear hP
  go_enter Try.func18, Try.ntmps18
  go_wp2_with (first
    | (go_at_call 22; refine (prefix_stars s _).mono ?_; rintro e w' ⟨rfl, rfl⟩)
    | (go_at_call 25; refine (class_any s hs hz _).mono ?_; rintro e W ⟨rfl, hW⟩; rw [HV.out])
    | (refine wpList_store_LA 47 257 rfl _ _ rfl w.heap.size ?_ (PF f m) ?_ size_part (fun _ => false) 47 ?_ ?_; (· rfl); (· rfl); (· exact PW_later hW))
    | (refine bodyPost_ret (results_part rfl _ _ w.heap.size (PF f m) (.int .i64 n) 47 rfl rfl (heap_setRow_same _ (PW_later hW))) rfl ⟨?_, ?_⟩; (· rw [HR.out]; rfl); (· exact below_setRow (PW_belowLater hW) (Nat.le_refl _) _)))

set_option maxRecDepth 10000 in
set_option maxHeartbeats 400000 in
theorem first_esc_none (s : ByteArray) (hs : 1 ≤ s.size) (hz : s.size ≤ 1000) (st : starsB s = false) (n42 : byteAt s 0 ≠ 42) (n63 : byteAt s 0 ≠ 63) (n91 : byteAt s 0 ≠ 91) (h92 : byteAt s 0 = 92) (hP : escR s = none) (w : World) :
    Calls Try.prog 18 #[.string s] w fun e w' => e = .returned (partV (firstR s)) ∧ Below w.heap.size w w' := by
  have hR : firstR s = none := by unfold firstR; rw [if_neg (by rw [st]; simp)]; rw [if_neg n42, if_neg n63, if_neg n91, if_pos h92]; exact hP
  have HR := hide hR
  clear hR
  have zp := zv_part
  have e0 := byteAt_eq s 0 (by omega)
  have b0 := byteAt_lt s 0
  have c42 : ((byteAt s 0 : Int) == 42) = false := by rw [beq_eq_false_iff_ne]; omega
  have c63 : ((byteAt s 0 : Int) == 63) = false := by rw [beq_eq_false_iff_ne]; omega
  have c91 : ((byteAt s 0 : Int) == 91) = false := by rw [beq_eq_false_iff_ne]; omega
  have c92 : ((byteAt s 0 : Int) == 92) = true := by rw [beq_iff_eq]; omega
  clear h92
  have HV := hide (show partV (escR s) = .tuple #[.agg (LA 257 (fun _ => false)), .int .i64 0] from by rw [hP]; rfl)
  clear hP
  go_enter Try.func18, Try.ntmps18
  go_wp2_with (first
    | (go_at_call 22; refine (prefix_stars s _).mono ?_; rintro e w' ⟨rfl, rfl⟩)
    | (go_at_call 26; refine (escaped_any s hs hz _).mono ?_; rintro e W ⟨rfl, hW⟩; rw [HV.out])
    | (refine wpList_store_LA 47 257 rfl _ _ rfl w.heap.size ?_ (fun _ => false) ?_ size_part (fun _ => false) 47 ?_ ?_; (· rfl); (· rfl); (· exact PW_later hW))
    | (refine bodyPost_ret (results_part rfl _ _ w.heap.size (fun _ => false) (.int .i64 0) 47 rfl rfl (heap_setRow_same _ (PW_later hW))) rfl ⟨?_, ?_⟩; (· rw [HR.out]; rfl); (· exact below_setRow (PW_belowLater hW) (Nat.le_refl _) _)))

set_option maxRecDepth 10000 in
set_option maxHeartbeats 400000 in
theorem first_esc_some (s : ByteArray) (hs : 1 ≤ s.size) (hz : s.size ≤ 1000) (st : starsB s = false) (n42 : byteAt s 0 ≠ 42) (n63 : byteAt s 0 ≠ 63) (n91 : byteAt s 0 ≠ 91) (h92 : byteAt s 0 = 92) (f : Nat → Bool) (m : Bool) (n : Nat) (hP : escR s = some (f, m, n)) (w : World) :
    Calls Try.prog 18 #[.string s] w fun e w' => e = .returned (partV (firstR s)) ∧ Below w.heap.size w w' := by
  have hR : firstR s = some (f, m, n) := by unfold firstR; rw [if_neg (by rw [st]; simp)]; rw [if_neg n42, if_neg n63, if_neg n91, if_pos h92]; exact hP
  have HR := hide hR
  clear hR
  have zp := zv_part
  have e0 := byteAt_eq s 0 (by omega)
  have b0 := byteAt_lt s 0
  have c42 : ((byteAt s 0 : Int) == 42) = false := by rw [beq_eq_false_iff_ne]; omega
  have c63 : ((byteAt s 0 : Int) == 63) = false := by rw [beq_eq_false_iff_ne]; omega
  have c91 : ((byteAt s 0 : Int) == 91) = false := by rw [beq_eq_false_iff_ne]; omega
  have c92 : ((byteAt s 0 : Int) == 92) = true := by rw [beq_iff_eq]; omega
  clear h92
  have HV := hide (show partV (escR s) = .tuple #[.agg (LA 257 (PF f m)), .int .i64 n] from by rw [hP]; rfl)
  clear hP
  go_enter Try.func18, Try.ntmps18
  go_wp2_with (first
    | (go_at_call 22; refine (prefix_stars s _).mono ?_; rintro e w' ⟨rfl, rfl⟩)
    | (go_at_call 26; refine (escaped_any s hs hz _).mono ?_; rintro e W ⟨rfl, hW⟩; rw [HV.out])
    | (refine wpList_store_LA 47 257 rfl _ _ rfl w.heap.size ?_ (PF f m) ?_ size_part (fun _ => false) 47 ?_ ?_; (· rfl); (· rfl); (· exact PW_later hW))
    | (refine bodyPost_ret (results_part rfl _ _ w.heap.size (PF f m) (.int .i64 n) 47 rfl rfl (heap_setRow_same _ (PW_later hW))) rfl ⟨?_, ?_⟩; (· rw [HR.out]; rfl); (· exact below_setRow (PW_belowLater hW) (Nat.le_refl _) _)))

set_option maxRecDepth 10000 in
set_option maxHeartbeats 400000 in
theorem first_plain (s : ByteArray) (hs : 1 ≤ s.size) (hz : s.size ≤ 1000) (st : starsB s = false) (n42 : byteAt s 0 ≠ 42) (n63 : byteAt s 0 ≠ 63) (n91 : byteAt s 0 ≠ 91) (n92 : byteAt s 0 ≠ 92) (hp : plainB (byteAt s 0) = true) (w : World) :
    Calls Try.prog 18 #[.string s] w fun e w' => e = .returned (partV (firstR s)) ∧ Below w.heap.size w w' := by
  have hR : firstR s = some (onlyF (byteAt s 0), false, 1) := by unfold firstR; rw [if_neg (by rw [st]; simp)]; rw [if_neg n42, if_neg n63, if_neg n91, if_neg n92, if_pos hp]
  have HR := hide hR
  clear hR
  have zp := zv_part
  have e0 := byteAt_eq s 0 (by omega)
  have b0 := byteAt_lt s 0
  have c42 : ((byteAt s 0 : Int) == 42) = false := by rw [beq_eq_false_iff_ne]; omega
  have c63 : ((byteAt s 0 : Int) == 63) = false := by rw [beq_eq_false_iff_ne]; omega
  have c91 : ((byteAt s 0 : Int) == 91) = false := by rw [beq_eq_false_iff_ne]; omega
  have c92 : ((byteAt s 0 : Int) == 92) = false := by rw [beq_eq_false_iff_ne]; omega
  go_enter Try.func18, Try.ntmps18
  go_wp2_with (first
    | (go_at_call 22; refine (prefix_stars s _).mono ?_; rintro e w' ⟨rfl, rfl⟩)
    | (go_at_call 27; refine (isPlain_any _ b0 _).mono ?_; rintro e w' ⟨rfl, rfl⟩)
    | (go_at_call 24; refine (only_any _ b0 _).mono ?_; rintro e W ⟨rfl, hW⟩)
    | (refine wpList_build_one rfl 47 _ _ rfl (.agg (LA 256 (onlyF (byteAt s 0)))) ?_ _ (built_part1 _) ?_; (· rfl))
    | (refine wpList_store_LA 47 257 rfl _ _ rfl w.heap.size ?_ (PF (onlyF (byteAt s 0)) false) ?_ size_part (fun _ => false) 47 ?_ ?_; (· rfl); (· rfl); (· exact PW_later hW))
    | (refine bodyPost_ret (results_part rfl _ _ w.heap.size (PF (onlyF (byteAt s 0)) false) (.int .i64 1) 47 rfl rfl (heap_setRow_same _ (PW_later hW))) rfl ⟨?_, ?_⟩; (· rw [HR.out]; rfl); (· exact below_setRow (PW_belowLater hW) (Nat.le_refl _) _)))

set_option maxRecDepth 10000 in
set_option maxHeartbeats 400000 in
theorem first_none (s : ByteArray) (hs : 1 ≤ s.size) (hz : s.size ≤ 1000) (st : starsB s = false) (n42 : byteAt s 0 ≠ 42) (n63 : byteAt s 0 ≠ 63) (n91 : byteAt s 0 ≠ 91) (n92 : byteAt s 0 ≠ 92) (hp : plainB (byteAt s 0) = false) (w : World) :
    Calls Try.prog 18 #[.string s] w fun e w' => e = .returned (partV (firstR s)) ∧ Below w.heap.size w w' := by
  have hR : firstR s = none := by unfold firstR; rw [if_neg (by rw [st]; simp)]; rw [if_neg n42, if_neg n63, if_neg n91, if_neg n92, if_neg (by rw [hp]; simp)]
  have HR := hide hR
  clear hR
  have zp := zv_part
  have e0 := byteAt_eq s 0 (by omega)
  have b0 := byteAt_lt s 0
  have c42 : ((byteAt s 0 : Int) == 42) = false := by rw [beq_eq_false_iff_ne]; omega
  have c63 : ((byteAt s 0 : Int) == 63) = false := by rw [beq_eq_false_iff_ne]; omega
  have c91 : ((byteAt s 0 : Int) == 91) = false := by rw [beq_eq_false_iff_ne]; omega
  have c92 : ((byteAt s 0 : Int) == 92) = false := by rw [beq_eq_false_iff_ne]; omega
  have bp0 := build_part0
  go_enter Try.func18, Try.ntmps18
  go_wp2_with (first
    | (go_at_call 22; refine (prefix_stars s _).mono ?_; rintro e w' ⟨rfl, rfl⟩)
    | (go_at_call 27; refine (isPlain_any _ b0 _).mono ?_; rintro e w' ⟨rfl, rfl⟩)
    | (refine wpList_store_LA 47 257 rfl _ _ rfl w.heap.size ?_ (fun _ => false) ?_ size_part (fun _ => false) 47 ?_ ?_; (· rfl); (· rfl); (· with_reducible exact heap_alloc_new _ _))
    | (refine bodyPost_ret (results_part rfl _ _ w.heap.size (fun _ => false) (.int .i64 0) 47 rfl rfl (heap_setRow_same _ (heap_alloc_new _ _))) rfl ⟨?_, ?_⟩; (· rw [HR.out]; rfl); (· exact below_setRow (PW_below w) (Nat.le_refl _) _)))

theorem first_any (s : ByteArray) (hs : 1 ≤ s.size) (hz : s.size ≤ 1000) (w : World) :
    Calls Try.prog 18 #[.string s] w fun e w' => e = .returned (partV (firstR s)) ∧ Below w.heap.size w w' := by
  cases st : starsB s
  · by_cases h42 : byteAt s 0 = 42
    · exact first_star s hs hz st h42 w
    · by_cases h63 : byteAt s 0 = 63
      · exact first_quest s hs hz st h42 h63 w
      · by_cases h91 : byteAt s 0 = 91
        · cases hP : classP s with
          | none => exact first_class_none s hs hz st h42 h63 h91 hP w
          | some x => obtain ⟨f, m, n⟩ := x; exact first_class_some s hs hz st h42 h63 h91 f m n hP w
        · by_cases h92 : byteAt s 0 = 92
          · cases hP : escR s with
            | none => exact first_esc_none s hs hz st h42 h63 h91 h92 hP w
            | some x => obtain ⟨f, m, n⟩ := x; exact first_esc_some s hs hz st h42 h63 h91 h92 f m n hP w
          · cases hp : plainB (byteAt s 0)
            · exact first_none s hs hz st h42 h63 h91 h92 hp w
            · exact first_plain s hs hz st h42 h63 h91 h92 hp w
  · exact first_stars s hs hz st w
end Go.Proofs.Ytaipgmnifnclbaa
