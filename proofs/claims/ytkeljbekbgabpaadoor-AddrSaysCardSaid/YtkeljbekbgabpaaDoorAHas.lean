/- What a net has: the code's and the document's. -/
import Derived.Test.YtkeljbekbgabpaaDoorAFault
import Derived.Test.YtkeljbekbgabpaaDoorANet
namespace Go.Proofs.YtkeljbekbgabpaaDoor
open Go.RowKit

def hasOf (ip : Nat) (b lo hi : Int) (x : Nat) (port : Int) : Bool := decide (faultOf ip b lo hi = 0) && (decide (x / restN b.toNat = ip / restN b.toNat) && (decide (lo ≤ port) && decide (port ≤ hi)))

/-- The cells of a net that was boxed, behind what left all older blocks. -/
theorem box_cells {w W : World} {ip : Nat} {b lo hi : Int} (hW : Below (w.heap.size + 1) (w.alloc (.cells #[.int .u32 ip, .int .i64 b, .int .i64 lo, .int .i64 hi] 39)) W) :
    W.cell? ⟨w.heap.size, 0, none⟩ = some (.int .u32 ip) ∧ W.cell? ⟨w.heap.size, 1, none⟩ = some (.int .i64 b) ∧ W.cell? ⟨w.heap.size, 2, none⟩ = some (.int .i64 lo) ∧ W.cell? ⟨w.heap.size, 3, none⟩ = some (.int .i64 hi) := by
  have hc : ∀ o, W.cell? ⟨w.heap.size, o, none⟩ = (#[.int .u32 ip, .int .i64 b, .int .i64 lo, .int .i64 hi] : Array Value)[o]? := fun o => by
    rw [hW.cell (p := ⟨w.heap.size, o, none⟩) (Nat.lt_succ_self _)]
    exact World.cell?_alloc_at _ _ _ _ rfl
  exact ⟨hc 0, hc 1, hc 2, hc 3⟩

theorem hasNet_any (ip : Nat) (hip : ip < 4294967296) (b lo hi : Int) (hb : -9223372036854775808 ≤ b ∧ b ≤ 9223372036854775807) (hl : -9223372036854775808 ≤ lo ∧ lo ≤ 9223372036854775807) (hh : -9223372036854775808 ≤ hi ∧ hi ≤ 9223372036854775807)
    (x : Nat) (hx : x < 4294967296) (port : Int) (w : World) :
    Calls Tryd.prog 17 #[netV ip b lo hi, .int .u32 x, .int .i64 port] w fun e w' => e = .returned (.bool (hasOf ip b lo hi x port)) ∧ Below w.heap.size w w' := by
  by_cases hf : faultOf ip b lo hi = 0
  · obtain ⟨⟨hb0, hb32⟩, _, _⟩ := fault_ok hf
    obtain ⟨k0, rfl⟩ : ∃ k : Nat, b = k := ⟨b.toNat, by omega⟩
    have hk0 : k0 ≤ 32 := by omega
    have HV := hide (show hasOf ip (k0 : Int) lo hi x port = (decide (x / restN k0 = ip / restN k0) && (decide (lo ≤ port) && decide (port ≤ hi))) by unfold hasOf; rw [decide_eq_true hf, Bool.true_and, Int.toNat_natCast])
    have HF := hide hf
    clear hf
    go_enter Tryd.func17, Tryd.ntmps17
    go_wp2_with (go_at_call 12; refine (netFault_any ip hip k0 lo hi hb hl hh _).mono ?_; rw [HF.out]; rintro e W ⟨rfl, hW⟩; have hW2 : Below (w.heap.size + 1) (w.alloc (.cells #[.int .u32 ip, .int .i64 k0, .int .i64 lo, .int .i64 hi] 39)) W := hW.mono (by simp); obtain ⟨h0, h1, h2, h3⟩ := box_cells hW2)
    have hW' : Below w.heap.size w W := ((Below.refl w.heap.size w).alloc (Nat.le_refl _) _).trans (hW.mono (by simp))
    have HW := hide hW'
    clear hW hW2 hW'
    have h0 : ∀ m, (W.drewN m).cell? ⟨w.heap.size, 0, none⟩ = _ := fun _ => h0
    have h1 : ∀ m, (W.drewN m).cell? ⟨w.heap.size, 1, none⟩ = _ := fun _ => h1
    have h2 : ∀ m, (W.drewN m).cell? ⟨w.heap.size, 2, none⟩ = _ := fun _ => h2
    have h3 : ∀ m, (W.drewN m).cell? ⟨w.heap.size, 3, none⟩ = _ := fun _ => h3
    go_loopw [7] (fun i w' => ∃ k m : Nat, k ≤ k0 ∧ i = .int .i64 k ∧ w' = W.drewN m ∧ Hid (x / restN k = ip / restN k)) (fun i _ => k0 - (intOf i).toNat)
    case atStart => exact ⟨0, 0, by omega, rfl, rfl, hide (by rw [show restN 0 = 4294967296 from rfl, Nat.div_eq_of_lt hx, Nat.div_eq_of_lt hip])⟩
    case round =>
      obtain ⟨k, m, hk, rfl, rfl, HI⟩ := hrel
      by_cases hlt : k < k0
      · have HX := hide (quot_step x k (by omega))
        have HP := hide (quot_step ip k (by omega))
        by_cases c : x / 2 ^ (31 - k) % 2 = ip / 2 ^ (31 - k) % 2
        · have HN := hide (show x / restN (k + 1) = ip / restN (k + 1) by rw [HX.out, HP.out, HI.out, c])
          have bb : ((x / 2 ^ (31 - k) % 2 == 1) == (ip / 2 ^ (31 - k) % 2 == 1)) = true := by rw [c]; simp
          clear c
          go_wp2
          go_quiet ((go_at_call 25; first | exact Calls.quiet_of_same (bit_any _ k (by assumption) (by omega) _) | exact quiet_same (bit_any _ k (by assumption) (by omega) _)))
          go_wp2
          go_round
          case rel => exact ⟨k + 1, _, by omega, by go_num, rfl, HN⟩
          case measure => simp [intOf]; omega
        · have HV2 := hide (show hasOf ip (k0 : Int) lo hi x port = false by
            rw [HV.out, decide_eq_false, Bool.false_and]
            intro h
            have h' := quot_down x ip (k0 - (k + 1)) (k + 1) (by omega) (by rw [show k + 1 + (k0 - (k + 1)) = k0 by omega]; exact h)
            rw [HX.out, HP.out, HI.out] at h'
            omega)
          have bb : ((x / 2 ^ (31 - k) % 2 == 1) == (ip / 2 ^ (31 - k) % 2 == 1)) = false := by
            rw [beq_eq_false_iff_ne]
            intro h
            rw [Bool.eq_iff_iff] at h
            simp at h
            omega
          clear c
          go_wp2
          go_quiet ((go_at_call 25; first | exact Calls.quiet_of_same (bit_any _ k (by assumption) (by omega) _) | exact quiet_same (bit_any _ k (by assumption) (by omega) _)))
          go_wp2
          go_ret
          exact ⟨by rw [HV2.out]; rfl, below_drewN' (below_drewN' HW.out _) _⟩
      · obtain rfl : k = k0 := by omega
        have HV2 := hide (show hasOf ip (k : Int) lo hi x port = (decide (lo ≤ port) && decide (port ≤ hi)) by rw [HV.out, decide_eq_true HI.out, Bool.true_and])
        by_cases c1 : lo ≤ port
        · have d1 : decide (lo ≤ port) = true := decide_eq_true c1
          go_wp2
          go_ret
          exact ⟨by rw [HV2.out, d1, Bool.true_and]; rfl, below_drewN' HW.out _⟩
        · have d1 : decide (lo ≤ port) = false := decide_eq_false c1
          go_wp2
          go_ret
          exact ⟨by rw [HV2.out, d1, Bool.false_and]; rfl, below_drewN' HW.out _⟩
  · have hf1 : 0 < faultOf ip b lo hi := by omega
    have HV := hide (show hasOf ip b lo hi x port = false by unfold hasOf; rw [decide_eq_false hf, Bool.false_and])
    go_enter Tryd.func17, Tryd.ntmps17
    go_wp2_with (go_at_call 12; refine (netFault_any ip hip b lo hi hb hl hh _).mono ?_; rintro e W ⟨rfl, hW⟩)
    go_ret
    exact ⟨by rw [HV.out]; rfl, ((Below.refl w.heap.size w).alloc (Nat.le_refl _) _).trans (hW.mono (by simp))⟩
end Go.Proofs.YtkeljbekbgabpaaDoor
