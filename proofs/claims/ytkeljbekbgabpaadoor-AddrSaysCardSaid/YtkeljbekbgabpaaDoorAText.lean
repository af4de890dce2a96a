/- addr.Text. -/
import Derived.Test.YtkeljbekbgabpaaDoorANumbers
import Derived.Test.YtkeljbekbgabpaaDoorAHas
import Derived.Lib.QuietBelow
namespace Go.Proofs.YtkeljbekbgabpaaDoor
open Go.RowKit Go.Sort

/-- What Text hands back. -/
def textV (ip : Nat) (b lo hi : Int) : Value := .tuple #[.string (if faultOf ip b lo hi = 0 then ⟨(netText ip b.toNat lo.toNat hi.toNat).toArray⟩ else ⟨#[]⟩), errV (faultOf ip b lo hi)]

/-- The world behind 'l := numbers(n)'. -/
def TX (w : World) (L : Nat) (ns : List Nat) (X : World) : Prop := Below w.heap.size w X ∧ X.heap[L]? = some (.cells (padN ns) 61 (0, 0)) ∧ Tab X
theorem TX.on {w X Y : World} {L : Nat} {ns : List Nat} (h : TX w L ns X) (hb : Below X.heap.size X Y) : TX w L ns Y :=
  ⟨h.1.trans (hb.mono h.1.size), (hb.block L (Array.getElem?_eq_some_iff.1 h.2.1).1).trans h.2.1, tab_on h.2.2 hb⟩
theorem TX.drew {w X : World} {L : Nat} {ns : List Nat} (h : TX w L ns X) : TX w L ns X.drew := ⟨below_drewN' h.1 1, h.2.1, h.2.2⟩
theorem TX.cell {w X : World} {L : Nat} {ns : List Nat} (h : TX w L ns X) (k : Nat) (hk : k < 7) : X.cell? ⟨L, k, none⟩ = some (.int .i64 (ns.getD k 0)) := by
  rw [cell_of_row _ _ k _ _ _ h.2.1, padN_get ns k hk]
theorem wpList_forget {P : Program} {ops : Array Oper} {r : List Oper} {Q : Exit → Act → World → Prop} {a : Act} {W0 : World} (F : World → Prop) (h : F W0) (H : ∀ W, F W → wpList P ops Q r a W) : wpList P ops Q r a W0 := H _ h

/-- The text of the first k + 1 numbers. -/
def textK (ns : List Nat) (k : Nat) : List UInt8 := joinN (signsL.take k) ns
theorem textK_zero (ns : List Nat) (h : ns.length = 7) : textK ns 0 = Lib.decDigits (ns.getD 0 0) := by
  obtain ⟨a, b, c, d, e, f, g, rfl⟩ := len7 h
  rfl
theorem textK_succ (ns : List Nat) (h : ns.length = 7) (k : Nat) (hk : k < 6) : textK ns (k + 1) = textK ns k ++ (signsL.getD k 0 :: Lib.decDigits (ns.getD (k + 1) 0)) := by
  obtain ⟨a, b, c, d, e, f, g, rfl⟩ := len7 h
  match k, hk with
  | 0, _ => rfl
  | 1, _ => simp [textK, signsL, joinN]
  | 2, _ => simp [textK, signsL, joinN]
  | 3, _ => simp [textK, signsL, joinN]
  | 4, _ => simp [textK, signsL, joinN]
  | 5, _ => simp [textK, signsL, joinN]

theorem textK_len (ns : List Nat) (h : ns.length = 7) (hb : ∀ k, ns.getD k 0 < 100000) : ∀ k, k ≤ 6 → (textK ns k).length ≤ 6 * (k + 1)
  | 0, _ => by
    rw [textK_zero ns h, Lib.decDigits_length]
    have := nDigits_le5 _ (hb 0)
    omega
  | k + 1, hk => by
    rw [textK_succ ns h k (by omega), List.length_append, List.length_cons, Lib.decDigits_length]
    have := nDigits_le5 _ (hb (k + 1))
    have := textK_len ns h hb k (by omega)
    omega
theorem textK_all {ns : List Nat} {ip b lo hi : Nat} (h : ns = netNums ip b lo hi) : textK ns 6 = netText ip b lo hi := by rw [h]; rfl

set_option maxHeartbeats 1000000 in
theorem text_any (ip : Nat) (hip : ip < 4294967296) (b lo hi : Int) (hb : -9223372036854775808 ≤ b ∧ b ≤ 9223372036854775807) (hl : -9223372036854775808 ≤ lo ∧ lo ≤ 9223372036854775807) (hh : -9223372036854775808 ≤ hi ∧ hi ≤ 9223372036854775807) (w : World) (ht : Tab w) :
    Calls Tryd.prog 13 #[netV ip b lo hi] w fun e w' => e = .returned (textV ip b lo hi) ∧ Below w.heap.size w w' := by
  have HT := hide ht
  clear ht
  by_cases hf : faultOf ip b lo hi = 0
  · obtain ⟨⟨hb0, hb32⟩, ⟨hl0, hlh, hh6⟩, _⟩ := fault_ok hf
    obtain ⟨b, rfl⟩ : ∃ k : Nat, b = k := ⟨b.toNat, by omega⟩
    obtain ⟨lo, rfl⟩ : ∃ k : Nat, lo = k := ⟨lo.toNat, by omega⟩
    obtain ⟨hi, rfl⟩ : ∃ k : Nat, hi = k := ⟨hi.toNat, by omega⟩
    have HV := hide (show textV ip b lo hi = .tuple #[.string ⟨(netText ip b lo hi).toArray⟩, .nilIface] by unfold textV; rw [if_pos hf, hf]; rfl)
    have HE := hide (show errV (faultOf ip b lo hi) = .nilIface by rw [hf]; rfl)
    clear hf
    go_enter Tryd.func13, Tryd.ntmps13
    go_wp2_with (first
      | (go_at_call 14; refine (acheck_any ip hip b lo hi hb hl hh _).mono ?_; rw [HE.out]; rintro e W ⟨rfl, hW⟩; have hW2 : Below (w.heap.size + 1) (w.alloc (.cells #[.int .u32 ip, .int .i64 b, .int .i64 lo, .int .i64 hi] 39)) W := hW.mono (by simp); obtain ⟨h0, h1, h2, h3⟩ := box_cells hW2; have HW := hide (show Below w.heap.size w W from ((Below.refl w.heap.size w).alloc (Nat.le_refl _) _).trans (hW.mono (by simp))); clear hW hW2)
      | (go_at_call 26; refine (numbers_any ip b lo hi hip _).mono ?_; rintro e W2 ⟨rfl, hW2⟩; have HW2 := hide (HW.out.trans (hW2.mono HW.out.size)); clear hW2 HW h0 h1 h2 h3; refine Hid.out ?_))
    refine hide ?_
    obtain ⟨ns, hns⟩ : ∃ ns, ns = netNums ip b lo hi := ⟨_, rfl⟩
    rw [← hns]
    have HNS := hide hns
    clear hns
    go_wp2_with (refine wpList_store_row rfl 61 _ _ rfl W2.heap.size (padN ns) rfl rfl 61 (padN []) (heap_alloc_new _ _) size_arr7 rfl (padN_one ns) ?_; rw [World.setRow_alloc_new]; refine Hid.out ?_)
    refine hide ?_
    obtain ⟨L, hL⟩ : ∃ L, L = W2.heap.size := ⟨_, rfl⟩
    have hTX : TX w L ns (W2.alloc (.cells (padN ns) 61)) := ⟨HW2.out.alloc (HW2.out.size) _, by rw [hL]; exact heap_alloc_new _ _, tab_on HT.out (HW2.out.alloc (HW2.out.size) _)⟩
    rw [← hL]
    clear hL
    refine wpList_forget (TX w L ns) hTX ?_
    clear hTX
    intro X hX
    have hlen : ns.length = 7 := by rw [HNS.out]; rfl
    have hbound : ∀ k, ns.getD k 0 < 100000 := fun k => getD_lt (fun n hn => by
      rw [HNS.out] at hn
      simp only [netNums, List.mem_cons, List.not_mem_nil, or_false] at hn
      omega) k
    obtain ⟨n0, h0⟩ : ∃ n, n = ns.getD 0 0 := ⟨_, rfl⟩
    have l0 := hbound 0
    have c0 := hX.cell 0 (by omega)
    rw [← h0] at l0 c0
    have H0 := hide h0
    clear h0
    have HX := hide hX
    clear hX
    go_wp2_with (go_at_call 24; refine (itoa_any n0 (by omega) _ HX.out.2.2).mono ?_; rintro e X1 ⟨rfl, hX1⟩; have HX1 := hide (HX.out.on hX1); clear hX1 HX c0; refine Hid.out ?_)
    refine hide ?_
    rw [show Lib.decDigits n0 = textK ns 0 by rw [textK_zero ns hlen, H0.out]]
    go_wp2
    go_loopw [18, 6] (fun i x w' => ∃ k : Nat, k ≤ 6 ∧ i = .int .i64 k ∧ (∃ t : ByteArray, x = .string t ∧ t.size ≤ 100 ∧ Hid (t = ⟨(textK ns k).toArray⟩)) ∧ Hid (TX w L ns w')) (fun i _ _ => 6 - (intOf i).toNat)
    case atStart => exact ⟨0, by omega, rfl, ⟨_, rfl, by have := textK_len ns hlen hbound 0 (by omega); simp [ByteArray.size]; omega, hide rfl⟩, HX1⟩
    case round =>
      obtain ⟨k, hk, rfl, ⟨tk, rfl, ltk, HTK⟩, HX⟩ := hrel
      by_cases hlt : k < 6
      · obtain ⟨nk, hnk⟩ : ∃ n, n = ns.getD (k + 1) 0 := ⟨_, rfl⟩
        have lk := hbound (k + 1)
        have ck := HX.out.cell (k + 1) (by omega)
        rw [← hnk] at lk ck
        have HK := hide hnk
        have HS := hide (textK_succ ns hlen k hlt)
        clear hnk
        have i1 : (0 : Int) ≤ k := by omega
        have i2 : (k : Int) ≤ k + 1 := by omega
        have i3 : (k : Int) + 1 ≤ 6 := by omega
        have i4 : (0 : Int) ≤ (k : Int) + 1 := by omega
        have i5 : (k : Int) + 1 < 7 := by omega
        obtain ⟨dk, hdk⟩ : ∃ d : ByteArray, d = ⟨(Lib.decDigits nk).toArray⟩ := ⟨_, rfl⟩
        have ldk : dk.size ≤ 5 := by have := nDigits_le5 nk lk; rw [← Lib.decDigits_length] at this; rw [hdk]; simpa [ByteArray.size] using this
        have HDK := hide hdk
        clear hdk
        have HI := fun X hT => (itoa_any nk (by omega) X hT).mono fun e w' h => (by rw [← HDK.out] at h; exact h : e = .returned (.string dk) ∧ Below X.heap.size X w')
        obtain ⟨sx, hsx⟩ : ∃ x : ByteArray, x = ⟨#[signsL.getD k 0]⟩ := ⟨_, rfl⟩
        have lsx : sx.size = 1 := by rw [hsx]; rfl
        have hsl : ∀ W, (Instr.slice 9 (.string ⟨#[46, 46, 46, 47, 58, 45]⟩) (some (.int .i64 (k : Int))) (some (.int .i64 ((k : Int) + 1))) none).run Tryd.prog W = .ok (.string sx) W := fun W => by
          rw [run_slice_string W 9 _ .i64 .i64 k (k + 1) Tryd.underlying9 i1 i2 (by exact i3), show ((k : Int) + 1).toNat = k + 1 by omega, Int.toNat_natCast, signs_extract k hlt, hsx]
        have HSX := hide hsx
        clear hsx
        have hw1 : IntKind.i64.wrap ((k : Int) + 1) = (k : Int) + 1 := by rw [IntKind.wrap_i64]; omega
        have cI : ∀ d os, Calls Tryd.prog 24 #[.int .i64 nk] (grow (redrawn wr d) os) fun e w'' => e = .returned (.string dk) ∧ ∃ p : Regrown, w'' = grow (redrawn wr p.d) p.os := fun d os => Calls.regrown_of (HI _ (HX.out.on (below_regrown _ _ _)).2.2)
        have ckr := cell_regrown ck
        have z1 : ¬ 9223372036854775807 < 1 + dk.size := by omega
        have z2 : ¬ 9223372036854775807 < tk.size + (1 + dk.size) := by omega
        go_wp2
        refine wp_region_quiet_below (by kernel_rfl) (by kernel_rfl) ?_
        repeat (quiet_step (exact cI _ _))
        refine wpQuiet_nil ?_
        intro _ hw'
        obtain ⟨⟨dq, osq⟩, hw''⟩ := hw'
        subst hw''
        go_wp2
        go_round
        case rel =>
          refine ⟨k + 1, by omega, by go_num, ⟨_, rfl, ?_, ?_⟩, hide (HX.out.on (below_regrown _ _ _))⟩
          · have h1 := textK_len ns hlen hbound (k + 1) (by omega)
            rw [HS.out, List.length_append, List.length_cons] at h1
            have h2 : tk.size = (textK ns k).length := by rw [HTK.out]; simp [ByteArray.size]
            have h3 : dk.size = (Lib.decDigits nk).length := by rw [HDK.out]; simp [ByteArray.size]
            rw [← HK.out] at h1
            rw [ByteArray.size_append, ByteArray.size_append]
            omega
          · refine hide ?_
            rw [HS.out, HTK.out, HSX.out, HDK.out, HK.out]
            apply ByteArray.ext
            simp [ByteArray.data_append]
        case measure => simp [intOf]; omega
      · obtain rfl : k = 6 := by omega
        go_wp2
        go_ret2
        exact ⟨by rw [HV.out, ← textK_all HNS.out, ← HTK.out]; rfl, HX.out.1⟩
  · have HV := hide (show textV ip b lo hi = .tuple #[.string ⟨#[]⟩, .iface 23 (.int .i64 (faultOf ip b lo hi : Nat))] by unfold textV errV; rw [if_neg hf, if_neg hf])
    have HE := hide (show errV (faultOf ip b lo hi) = .iface 23 (.int .i64 (faultOf ip b lo hi : Nat)) by unfold errV; rw [if_neg hf])
    clear hf
    go_enter Tryd.func13, Tryd.ntmps13
    go_wp2_with (go_at_call 14; refine (acheck_any ip hip b lo hi hb hl hh _).mono ?_; rw [HE.out]; rintro e W ⟨rfl, hW⟩)
    go_ret2
    exact ⟨by rw [HV.out]; rfl, ((Below.refl w.heap.size w).alloc (Nat.le_refl _) _).trans (hW.mono (by simp))⟩
end Go.Proofs.YtkeljbekbgabpaaDoor
