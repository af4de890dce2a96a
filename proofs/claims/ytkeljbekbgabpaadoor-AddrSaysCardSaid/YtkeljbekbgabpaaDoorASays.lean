/- AddrSays, walked. -/
import Derived.Test.YtkeljbekbgabpaaDoorANets
import Derived.Test.YtkeljbekbgabpaaDoorANetOf
import Derived.Test.YtkeljbekbgabpaaDoorABytes2
import Derived.Test.YtkeljbekbgabpaaDoorATop
namespace Go.Proofs.YtkeljbekbgabpaaDoor
open Go.RowKit Go.Sort

theorem ax_on {w V V2 : World} {ip : Nat} {b lo hi : Int} {o : Array Value} (h : Hid (AX w ip b lo hi V)) (hb : Below (V.alloc (.cells o 39)).heap.size (V.alloc (.cells o 39)) V2) :
    Hid (AX w ip b lo hi V2) ∧ V2.heap[V.heap.size]? = some (.cells o 39 (0, 0)) ∧ V.heap.size < V2.heap.size :=
  ⟨hide ((h.out.on ((Below.refl _ _).alloc (Nat.le_refl _) _)).on hb), (hb.block _ (by simp)).trans (heap_alloc_new _ _), by have := hb.size; simp at this; omega⟩

set_option maxRecDepth 100000 in
set_option maxHeartbeats 8000000 in
theorem addrSays_any (ip : Nat) (hip : ip < 4294967296) (b lo hi : Int) (hb : -9223372036854775808 ≤ b ∧ b ≤ 9223372036854775807) (hl : -9223372036854775808 ≤ lo ∧ lo ≤ 9223372036854775807) (hh : -9223372036854775808 ≤ hi ∧ hi ≤ 9223372036854775807)
    (s : ByteArray) (x : Nat) (hx : x < 4294967296) (port : Int) (bs : ByteArray) (w : World) (ht : Tab w) :
    Calls Tryd.prog 4 #[netV ip b lo hi, .string s, .int .u32 x, .int .i64 port, .string bs] w fun e w' => e = .returned (.bool true) ∧ Below w.heap.size w w' := by
  have HA := hide (AX.start w ip b lo hi ht)
  clear ht
  obtain ⟨c0, c1, c2, c3⟩ := HA.out.cells
  by_cases hs : 100 < s.size
  · go_enter Tryd.func4, Tryd.ntmps4
    go_wp2_with (go_at_call 11; refine (nets_any _).mono ?_; rintro e V ⟨rfl, hV⟩)
    go_ret
    exact ⟨rfl, (HA.out.on hV).1⟩
  · by_cases hbs : 100 < bs.size
    · go_enter Tryd.func4, Tryd.ntmps4
      go_wp2_with (go_at_call 11; refine (nets_any _).mono ?_; rintro e V ⟨rfl, hV⟩)
      go_ret
      exact ⟨rfl, (HA.out.on hV).1⟩
    · obtain ⟨hv, hhv⟩ : ∃ v, v = hasOf ip b lo hi x port := ⟨_, rfl⟩
      have HH : ∀ V, Calls Tryd.prog 16 #[netV ip b lo hi, .int .u32 x, .int .i64 port] V fun e w' => e = .returned (.bool hv) ∧ Below V.heap.size V w' := fun V => (has_any ip hip b lo hi hb hl hh x hx port V).mono fun e w' h => by rw [← hhv] at h; exact h
      have HHN : ∀ V, Calls Tryd.prog 17 #[netV ip b lo hi, .int .u32 x, .int .i64 port] V fun e w' => e = .returned (.bool hv) ∧ Below V.heap.size V w' := fun V => (hasNet_any ip hip b lo hi hb hl hh x hx port V).mono fun e w' h => by rw [← hhv] at h; exact h
      clear hhv
      go_enter Tryd.func4, Tryd.ntmps4
      by_cases hf : faultOf ip b lo hi = 0
      · have hf0 := hf
        obtain ⟨⟨hb0, hb32⟩, ⟨hl0, hlh, hh6⟩, _⟩ := fault_ok hf
        obtain ⟨b, rfl⟩ : ∃ k : Nat, b = k := ⟨b.toNat, by omega⟩
        obtain ⟨lo, rfl⟩ : ∃ k : Nat, lo = k := ⟨lo.toNat, by omega⟩
        obtain ⟨hi, rfl⟩ : ∃ k : Nat, hi = k := ⟨hi.toNat, by omega⟩
        have HNF : ∀ V, Calls Tryd.prog 12 #[netV ip b lo hi] V fun e w' => e = .returned (.int .i64 0) ∧ Below V.heap.size V w' := fun V => (netFault_any ip hip b lo hi hb hl hh V).mono fun e w' h => by rw [hf] at h; exact h
        have HCK : ∀ V, Calls Tryd.prog 14 #[netV ip b lo hi] V fun e w' => e = .returned .nilIface ∧ Below V.heap.size V w' := fun V => (acheck_any ip hip b lo hi hb hl hh V).mono fun e w' h => by rw [hf] at h; exact h
        have HTX := fun V (h : Tab V) => text_good ip hip b lo hi hf V h
        have HNT := fun V => netText_any ip hip b lo hi hf V
        obtain ⟨tx, htx⟩ : ∃ t : ByteArray, t = ⟨(netText ip b lo hi).toArray⟩ := ⟨_, rfl⟩
        rw [← htx] at HTX HNT
        clear htx hf hf0
        go_wp2_with (first
          | (go_at_call 11; refine (nets_any _).mono ?_; rintro e V ⟨rfl, hV⟩; have HA := hide (HA.out.on hV); clear hV c0 c1 c2 c3; obtain ⟨c0, c1, c2, c3⟩ := HA.out.cells)
          | (go_at_call 12; refine (HNF _).mono ?_; rintro e V ⟨rfl, hV⟩; have HA := hide (HA.out.on hV); clear hV c0 c1 c2 c3; obtain ⟨c0, c1, c2, c3⟩ := HA.out.cells)
          | (go_at_call 13; refine (HTX _ HA.out.2.2).mono ?_; rintro e V ⟨rfl, hV⟩; have HA := hide (HA.out.on hV); clear hV c0 c1 c2 c3; obtain ⟨c0, c1, c2, c3⟩ := HA.out.cells))
        have g0 := cell_regrown c0
        have g1 := cell_regrown c1
        have g2 := cell_regrown c2
        have g3 := cell_regrown c3
        have cCK := fun d os => Calls.regrown_of (w := V) (d := d) (os := os) (HCK _)
        have cNT := fun d os => Calls.regrown_of (w := V) (d := d) (os := os) (HNT _)
        have cHH := fun d os => Calls.regrown_of (w := V) (d := d) (os := os) (HH _)
        have cHN := fun d os => Calls.regrown_of (w := V) (d := d) (os := os) (HHN _)
        have cS : ∀ d os, Calls Tryd.prog 6 #[.nilIface, .int .i64 0] (grow (redrawn V d) os) fun e w'' => e = .returned (.bool true) ∧ ∃ p : Regrown, w'' = grow (redrawn V p.d) p.os := fun d os => regrown_same (same_nil 0 _)
        refine wp_region_quiet_below (by kernel_rfl) (by kernel_rfl) ?_
        repeat (go_big_quiet_step (first | (go_at_call 14; exact cCK _ _) | (go_at_call 6; exact cS _ _) | (go_at_call 15; exact cNT _ _) | (go_at_call 16; exact cHH _ _) | (go_at_call 17; exact cHN _ _)))
        refine wpQuiet_nil ?_
        intro _ hw'
        obtain ⟨⟨dq, osq⟩, hw''⟩ := hw'
        have HA := hide (HA.out.on (below_regrown V dq osq))
        rw [← hw''] at HA
        clear hw'' c0 c1 c2 c3
        obtain ⟨c0, c1, c2, c3⟩ := HA.out.cells
        go_wp2_with (first
          | (go_at_call 18; refine Hid.out ?_))
        refine hide ?_
        cases hpr : parseR s.data.toList with
        | none =>
          have HPA : ∀ V, Calls Tryd.prog 18 #[.string s] V fun e w' => e = .returned (.tuple #[netV 0 0 0 0, .iface 23 (.int .i64 4)]) ∧ Below V.heap.size V w' := fun V => (aparse_any s (by omega) V).mono fun e w' h => by rw [hpr] at h; exact h
          have HNO : ∀ V, Calls Tryd.prog 19 #[.string s] V fun e w' => e = .returned (.tuple #[netV 0 0 0 0, .bool false]) ∧ Below V.heap.size V w' := fun V => (netOf_any s (by omega) V).mono fun e w' h => by rw [hpr] at h; exact h
          clear hpr
          refine (HPA _).mono ?_
          rintro e V ⟨rfl, hV⟩
          have HA := hide (HA.out.on hV)
          clear hV c0 c1 c2 c3
          go_wp2_with (go_at_call 19; refine (HNO _).mono ?_; rintro e V2 ⟨rfl, hV2⟩; obtain ⟨HA, hx, hlt⟩ := ax_on HA hV2; clear hV2; refine Hid.out ?_)
          refine hide ?_
          have X0 : ∀ o, (V2.alloc o).cell? ⟨V.heap.size, 0, none⟩ = some (.int .u32 0) := fun o => cell_of_row _ _ 0 _ _ _ ((alloc_old _ o _ hlt).trans hx)
          have X1 : ∀ o, (V2.alloc o).cell? ⟨V.heap.size, 1, none⟩ = some (.int .i64 0) := fun o => cell_of_row _ _ 1 _ _ _ ((alloc_old _ o _ hlt).trans hx)
          have X2 : ∀ o, (V2.alloc o).cell? ⟨V.heap.size, 2, none⟩ = some (.int .i64 0) := fun o => cell_of_row _ _ 2 _ _ _ ((alloc_old _ o _ hlt).trans hx)
          have X3 : ∀ o, (V2.alloc o).cell? ⟨V.heap.size, 3, none⟩ = some (.int .i64 0) := fun o => cell_of_row _ _ 3 _ _ _ ((alloc_old _ o _ hlt).trans hx)
          go_wp2_with (first
            | (go_at_call 6; refine (same_errno _ _ _).mono ?_; rintro e V ⟨rfl, rfl⟩)
            | (go_at_call 20; refine Hid.out ?_))
          refine hide ?_
          have HA := hide (HA.out.on ((Below.refl _ _).alloc (Nat.le_refl _) (.cells #[.int .u32 0, .int .i64 0, .int .i64 0, .int .i64 0] 39)))
          obtain ⟨c0, c1, c2, c3⟩ := HA.out.cells
          clear X0 X1 X2 X3 hx hlt
          by_cases hpb : port < 0 ∨ 65535 < port
          · have hv : port < 0 ∨ 65535 < port := hpb
            refine (bytes_bad _ _ hv _).mono ?_
            clear hv
            rintro e V ⟨rfl, rfl⟩
            by_cases hp0 : port < 0
            · go_wp2_with (first
                | (go_at_call 6; refine (same_errno _ _ _).mono ?_; rintro e V ⟨rfl, rfl⟩)
                | (go_at_call 22; refine Hid.out ?_))
              refine hide ?_
              cases hrd : readR bs with
              | none =>
                have HRD : ∀ V, Calls Tryd.prog 22 #[.string bs] V fun e w' => e = .returned (.tuple #[.int .u32 0, .int .i64 0, .iface 23 (.int .i64 3)]) ∧ Below V.heap.size V w' := fun V => (read_any bs V).mono fun e w' h => by rw [hrd] at h; exact h
                have HAO : ∀ V, Calls Tryd.prog 23 #[.string bs] V fun e w' => e = .returned (.tuple #[.int .u32 0, .int .i64 0, .bool false]) ∧ Below V.heap.size V w' := fun V => (addrOf_any bs V).mono fun e w' h => by rw [hrd] at h; exact h
                clear hrd
                refine (HRD _).mono ?_
                rintro e V ⟨rfl, hV⟩
                have HA := hide (HA.out.on hV)
                clear hV c0 c1 c2 c3
                obtain ⟨c0, c1, c2, c3⟩ := HA.out.cells
                go_wp2_with (first
                  | (go_at_call 23; refine (HAO _).mono ?_; rintro e V ⟨rfl, hV⟩; have HA := hide (HA.out.on hV); clear hV c0 c1 c2 c3; obtain ⟨c0, c1, c2, c3⟩ := HA.out.cells)
                  | (go_at_call 6; refine (same_errno _ _ _).mono ?_; rintro e V ⟨rfl, rfl⟩))
                go_ret
                exact ⟨rfl, HA.out.1⟩
              | some ip0 =>
                obtain ⟨i0, p0⟩ := ip0
                have HRD : ∀ V, Calls Tryd.prog 22 #[.string bs] V fun e w' => e = .returned (.tuple #[.int .u32 i0, .int .i64 p0, .nilIface]) ∧ Below V.heap.size V w' := fun V => (read_any bs V).mono fun e w' h => by rw [hrd] at h; exact h
                have HAO : ∀ V, Calls Tryd.prog 23 #[.string bs] V fun e w' => e = .returned (.tuple #[.int .u32 i0, .int .i64 p0, .bool true]) ∧ Below V.heap.size V w' := fun V => (addrOf_any bs V).mono fun e w' h => by rw [hrd] at h; exact h
                clear hrd
                refine (HRD _).mono ?_
                rintro e V ⟨rfl, hV⟩
                have HA := hide (HA.out.on hV)
                clear hV c0 c1 c2 c3
                obtain ⟨c0, c1, c2, c3⟩ := HA.out.cells
                go_wp2_with (first
                  | (go_at_call 23; refine (HAO _).mono ?_; rintro e V ⟨rfl, hV⟩; have HA := hide (HA.out.on hV); clear hV c0 c1 c2 c3; obtain ⟨c0, c1, c2, c3⟩ := HA.out.cells)
                  | (go_at_call 6; go_at_call_of 6 Value.nilIface; refine (same_nil _ _).mono ?_; rintro e V ⟨rfl, rfl⟩))
                go_ret
                exact ⟨rfl, HA.out.1⟩
            · go_wp2_with (first
                | (go_at_call 6; refine (same_errno _ _ _).mono ?_; rintro e V ⟨rfl, rfl⟩)
                | (go_at_call 22; refine Hid.out ?_))
              refine hide ?_
              cases hrd : readR bs with
              | none =>
                have HRD : ∀ V, Calls Tryd.prog 22 #[.string bs] V fun e w' => e = .returned (.tuple #[.int .u32 0, .int .i64 0, .iface 23 (.int .i64 3)]) ∧ Below V.heap.size V w' := fun V => (read_any bs V).mono fun e w' h => by rw [hrd] at h; exact h
                have HAO : ∀ V, Calls Tryd.prog 23 #[.string bs] V fun e w' => e = .returned (.tuple #[.int .u32 0, .int .i64 0, .bool false]) ∧ Below V.heap.size V w' := fun V => (addrOf_any bs V).mono fun e w' h => by rw [hrd] at h; exact h
                clear hrd
                refine (HRD _).mono ?_
                rintro e V ⟨rfl, hV⟩
                have HA := hide (HA.out.on hV)
                clear hV c0 c1 c2 c3
                obtain ⟨c0, c1, c2, c3⟩ := HA.out.cells
                go_wp2_with (first
                  | (go_at_call 23; refine (HAO _).mono ?_; rintro e V ⟨rfl, hV⟩; have HA := hide (HA.out.on hV); clear hV c0 c1 c2 c3; obtain ⟨c0, c1, c2, c3⟩ := HA.out.cells)
                  | (go_at_call 6; refine (same_errno _ _ _).mono ?_; rintro e V ⟨rfl, rfl⟩))
                go_ret
                exact ⟨rfl, HA.out.1⟩
              | some ip0 =>
                obtain ⟨i0, p0⟩ := ip0
                have HRD : ∀ V, Calls Tryd.prog 22 #[.string bs] V fun e w' => e = .returned (.tuple #[.int .u32 i0, .int .i64 p0, .nilIface]) ∧ Below V.heap.size V w' := fun V => (read_any bs V).mono fun e w' h => by rw [hrd] at h; exact h
                have HAO : ∀ V, Calls Tryd.prog 23 #[.string bs] V fun e w' => e = .returned (.tuple #[.int .u32 i0, .int .i64 p0, .bool true]) ∧ Below V.heap.size V w' := fun V => (addrOf_any bs V).mono fun e w' h => by rw [hrd] at h; exact h
                clear hrd
                refine (HRD _).mono ?_
                rintro e V ⟨rfl, hV⟩
                have HA := hide (HA.out.on hV)
                clear hV c0 c1 c2 c3
                obtain ⟨c0, c1, c2, c3⟩ := HA.out.cells
                go_wp2_with (first
                  | (go_at_call 23; refine (HAO _).mono ?_; rintro e V ⟨rfl, hV⟩; have HA := hide (HA.out.on hV); clear hV c0 c1 c2 c3; obtain ⟨c0, c1, c2, c3⟩ := HA.out.cells)
                  | (go_at_call 6; go_at_call_of 6 Value.nilIface; refine (same_nil _ _).mono ?_; rintro e V ⟨rfl, rfl⟩))
                go_ret
                exact ⟨rfl, HA.out.1⟩
          · obtain ⟨p, rfl⟩ : ∃ p : Nat, port = p := ⟨port.toNat, by omega⟩
            have hp2 : p ≤ 65535 := by omega
            clear hpb
            have HBY := fun V => bytes_any x hx p hp2 V
            have HAB := fun V => addrBytes_any x hx p hp2 V
            obtain ⟨by0, hby⟩ : ∃ t : ByteArray, t = ⟨(bytesL x p).toArray⟩ := ⟨_, rfl⟩
            rw [← hby] at HBY HAB
            clear hby
            refine (HBY _).mono ?_
            rintro e V ⟨rfl, hV⟩
            have HA := hide (HA.out.on hV)
            clear hV c0 c1 c2 c3
            obtain ⟨c0, c1, c2, c3⟩ := HA.out.cells
            go_wp2_with (first
              | (go_at_call 6; go_at_call_of 6 Value.nilIface; refine (same_nil _ _).mono ?_; rintro e V ⟨rfl, rfl⟩)
              | (go_at_call 21; refine (HAB _).mono ?_; rintro e V ⟨rfl, hV⟩; have HA := hide (HA.out.on hV); clear hV c0 c1 c2 c3; obtain ⟨c0, c1, c2, c3⟩ := HA.out.cells)
              | (go_at_call 22; refine Hid.out ?_))
            refine hide ?_
            cases hrd : readR bs with
            | none =>
              have HRD : ∀ V, Calls Tryd.prog 22 #[.string bs] V fun e w' => e = .returned (.tuple #[.int .u32 0, .int .i64 0, .iface 23 (.int .i64 3)]) ∧ Below V.heap.size V w' := fun V => (read_any bs V).mono fun e w' h => by rw [hrd] at h; exact h
              have HAO : ∀ V, Calls Tryd.prog 23 #[.string bs] V fun e w' => e = .returned (.tuple #[.int .u32 0, .int .i64 0, .bool false]) ∧ Below V.heap.size V w' := fun V => (addrOf_any bs V).mono fun e w' h => by rw [hrd] at h; exact h
              clear hrd
              refine (HRD _).mono ?_
              rintro e V ⟨rfl, hV⟩
              have HA := hide (HA.out.on hV)
              clear hV c0 c1 c2 c3
              obtain ⟨c0, c1, c2, c3⟩ := HA.out.cells
              go_wp2_with (first
                | (go_at_call 23; refine (HAO _).mono ?_; rintro e V ⟨rfl, hV⟩; have HA := hide (HA.out.on hV); clear hV c0 c1 c2 c3; obtain ⟨c0, c1, c2, c3⟩ := HA.out.cells)
                | (go_at_call 6; refine (same_errno _ _ _).mono ?_; rintro e V ⟨rfl, rfl⟩))
              go_ret
              exact ⟨rfl, HA.out.1⟩
            | some ip0 =>
              obtain ⟨i0, p0⟩ := ip0
              have HRD : ∀ V, Calls Tryd.prog 22 #[.string bs] V fun e w' => e = .returned (.tuple #[.int .u32 i0, .int .i64 p0, .nilIface]) ∧ Below V.heap.size V w' := fun V => (read_any bs V).mono fun e w' h => by rw [hrd] at h; exact h
              have HAO : ∀ V, Calls Tryd.prog 23 #[.string bs] V fun e w' => e = .returned (.tuple #[.int .u32 i0, .int .i64 p0, .bool true]) ∧ Below V.heap.size V w' := fun V => (addrOf_any bs V).mono fun e w' h => by rw [hrd] at h; exact h
              clear hrd
              refine (HRD _).mono ?_
              rintro e V ⟨rfl, hV⟩
              have HA := hide (HA.out.on hV)
              clear hV c0 c1 c2 c3
              obtain ⟨c0, c1, c2, c3⟩ := HA.out.cells
              go_wp2_with (first
                | (go_at_call 23; refine (HAO _).mono ?_; rintro e V ⟨rfl, hV⟩; have HA := hide (HA.out.on hV); clear hV c0 c1 c2 c3; obtain ⟨c0, c1, c2, c3⟩ := HA.out.cells)
                | (go_at_call 6; go_at_call_of 6 Value.nilIface; refine (same_nil _ _).mono ?_; rintro e V ⟨rfl, rfl⟩))
              go_ret
              exact ⟨rfl, HA.out.1⟩
        | some net =>
          obtain ⟨pi, pb, pl, ph⟩ := net
          have HPA : ∀ V, Calls Tryd.prog 18 #[.string s] V fun e w' => e = .returned (.tuple #[netV pi pb pl ph, .nilIface]) ∧ Below V.heap.size V w' := fun V => (aparse_any s (by omega) V).mono fun e w' h => by rw [hpr] at h; exact h
          have HNO : ∀ V, Calls Tryd.prog 19 #[.string s] V fun e w' => e = .returned (.tuple #[netV pi pb pl ph, .bool true]) ∧ Below V.heap.size V w' := fun V => (netOf_any s (by omega) V).mono fun e w' h => by rw [hpr] at h; exact h
          clear hpr
          refine (HPA _).mono ?_
          rintro e V ⟨rfl, hV⟩
          have HA := hide (HA.out.on hV)
          clear hV c0 c1 c2 c3
          go_wp2_with (go_at_call 19; refine (HNO _).mono ?_; rintro e V2 ⟨rfl, hV2⟩; obtain ⟨HA, hx, hlt⟩ := ax_on HA hV2; clear hV2; refine Hid.out ?_)
          refine hide ?_
          have X0 : ∀ o, (V2.alloc o).cell? ⟨V.heap.size, 0, none⟩ = some (.int .u32 (pi : Int)) := fun o => cell_of_row _ _ 0 _ _ _ ((alloc_old _ o _ hlt).trans hx)
          have X1 : ∀ o, (V2.alloc o).cell? ⟨V.heap.size, 1, none⟩ = some (.int .i64 (pb : Int)) := fun o => cell_of_row _ _ 1 _ _ _ ((alloc_old _ o _ hlt).trans hx)
          have X2 : ∀ o, (V2.alloc o).cell? ⟨V.heap.size, 2, none⟩ = some (.int .i64 (pl : Int)) := fun o => cell_of_row _ _ 2 _ _ _ ((alloc_old _ o _ hlt).trans hx)
          have X3 : ∀ o, (V2.alloc o).cell? ⟨V.heap.size, 3, none⟩ = some (.int .i64 (ph : Int)) := fun o => cell_of_row _ _ 3 _ _ _ ((alloc_old _ o _ hlt).trans hx)
          go_wp2_with (first
            | (go_at_call 6; go_at_call_of 6 Value.nilIface; refine (same_nil _ _).mono ?_; rintro e V ⟨rfl, rfl⟩)
            | (go_at_call 20; refine Hid.out ?_))
          refine hide ?_
          have HA := hide (HA.out.on ((Below.refl _ _).alloc (Nat.le_refl _) (.cells #[.int .u32 (pi : Int), .int .i64 (pb : Int), .int .i64 (pl : Int), .int .i64 (ph : Int)] 39)))
          obtain ⟨c0, c1, c2, c3⟩ := HA.out.cells
          clear X0 X1 X2 X3 hx hlt
          by_cases hpb : port < 0 ∨ 65535 < port
          · have hv : port < 0 ∨ 65535 < port := hpb
            refine (bytes_bad _ _ hv _).mono ?_
            clear hv
            rintro e V ⟨rfl, rfl⟩
            by_cases hp0 : port < 0
            · go_wp2_with (first
                | (go_at_call 6; refine (same_errno _ _ _).mono ?_; rintro e V ⟨rfl, rfl⟩)
                | (go_at_call 22; refine Hid.out ?_))
              refine hide ?_
              cases hrd : readR bs with
              | none =>
                have HRD : ∀ V, Calls Tryd.prog 22 #[.string bs] V fun e w' => e = .returned (.tuple #[.int .u32 0, .int .i64 0, .iface 23 (.int .i64 3)]) ∧ Below V.heap.size V w' := fun V => (read_any bs V).mono fun e w' h => by rw [hrd] at h; exact h
                have HAO : ∀ V, Calls Tryd.prog 23 #[.string bs] V fun e w' => e = .returned (.tuple #[.int .u32 0, .int .i64 0, .bool false]) ∧ Below V.heap.size V w' := fun V => (addrOf_any bs V).mono fun e w' h => by rw [hrd] at h; exact h
                clear hrd
                refine (HRD _).mono ?_
                rintro e V ⟨rfl, hV⟩
                have HA := hide (HA.out.on hV)
                clear hV c0 c1 c2 c3
                obtain ⟨c0, c1, c2, c3⟩ := HA.out.cells
                go_wp2_with (first
                  | (go_at_call 23; refine (HAO _).mono ?_; rintro e V ⟨rfl, hV⟩; have HA := hide (HA.out.on hV); clear hV c0 c1 c2 c3; obtain ⟨c0, c1, c2, c3⟩ := HA.out.cells)
                  | (go_at_call 6; refine (same_errno _ _ _).mono ?_; rintro e V ⟨rfl, rfl⟩))
                go_ret
                exact ⟨rfl, HA.out.1⟩
              | some ip0 =>
                obtain ⟨i0, p0⟩ := ip0
                have HRD : ∀ V, Calls Tryd.prog 22 #[.string bs] V fun e w' => e = .returned (.tuple #[.int .u32 i0, .int .i64 p0, .nilIface]) ∧ Below V.heap.size V w' := fun V => (read_any bs V).mono fun e w' h => by rw [hrd] at h; exact h
                have HAO : ∀ V, Calls Tryd.prog 23 #[.string bs] V fun e w' => e = .returned (.tuple #[.int .u32 i0, .int .i64 p0, .bool true]) ∧ Below V.heap.size V w' := fun V => (addrOf_any bs V).mono fun e w' h => by rw [hrd] at h; exact h
                clear hrd
                refine (HRD _).mono ?_
                rintro e V ⟨rfl, hV⟩
                have HA := hide (HA.out.on hV)
                clear hV c0 c1 c2 c3
                obtain ⟨c0, c1, c2, c3⟩ := HA.out.cells
                go_wp2_with (first
                  | (go_at_call 23; refine (HAO _).mono ?_; rintro e V ⟨rfl, hV⟩; have HA := hide (HA.out.on hV); clear hV c0 c1 c2 c3; obtain ⟨c0, c1, c2, c3⟩ := HA.out.cells)
                  | (go_at_call 6; go_at_call_of 6 Value.nilIface; refine (same_nil _ _).mono ?_; rintro e V ⟨rfl, rfl⟩))
                go_ret
                exact ⟨rfl, HA.out.1⟩
            · go_wp2_with (first
                | (go_at_call 6; refine (same_errno _ _ _).mono ?_; rintro e V ⟨rfl, rfl⟩)
                | (go_at_call 22; refine Hid.out ?_))
              refine hide ?_
              cases hrd : readR bs with
              | none =>
                have HRD : ∀ V, Calls Tryd.prog 22 #[.string bs] V fun e w' => e = .returned (.tuple #[.int .u32 0, .int .i64 0, .iface 23 (.int .i64 3)]) ∧ Below V.heap.size V w' := fun V => (read_any bs V).mono fun e w' h => by rw [hrd] at h; exact h
                have HAO : ∀ V, Calls Tryd.prog 23 #[.string bs] V fun e w' => e = .returned (.tuple #[.int .u32 0, .int .i64 0, .bool false]) ∧ Below V.heap.size V w' := fun V => (addrOf_any bs V).mono fun e w' h => by rw [hrd] at h; exact h
                clear hrd
                refine (HRD _).mono ?_
                rintro e V ⟨rfl, hV⟩
                have HA := hide (HA.out.on hV)
                clear hV c0 c1 c2 c3
                obtain ⟨c0, c1, c2, c3⟩ := HA.out.cells
                go_wp2_with (first
                  | (go_at_call 23; refine (HAO _).mono ?_; rintro e V ⟨rfl, hV⟩; have HA := hide (HA.out.on hV); clear hV c0 c1 c2 c3; obtain ⟨c0, c1, c2, c3⟩ := HA.out.cells)
                  | (go_at_call 6; refine (same_errno _ _ _).mono ?_; rintro e V ⟨rfl, rfl⟩))
                go_ret
                exact ⟨rfl, HA.out.1⟩
              | some ip0 =>
                obtain ⟨i0, p0⟩ := ip0
                have HRD : ∀ V, Calls Tryd.prog 22 #[.string bs] V fun e w' => e = .returned (.tuple #[.int .u32 i0, .int .i64 p0, .nilIface]) ∧ Below V.heap.size V w' := fun V => (read_any bs V).mono fun e w' h => by rw [hrd] at h; exact h
                have HAO : ∀ V, Calls Tryd.prog 23 #[.string bs] V fun e w' => e = .returned (.tuple #[.int .u32 i0, .int .i64 p0, .bool true]) ∧ Below V.heap.size V w' := fun V => (addrOf_any bs V).mono fun e w' h => by rw [hrd] at h; exact h
                clear hrd
                refine (HRD _).mono ?_
                rintro e V ⟨rfl, hV⟩
                have HA := hide (HA.out.on hV)
                clear hV c0 c1 c2 c3
                obtain ⟨c0, c1, c2, c3⟩ := HA.out.cells
                go_wp2_with (first
                  | (go_at_call 23; refine (HAO _).mono ?_; rintro e V ⟨rfl, hV⟩; have HA := hide (HA.out.on hV); clear hV c0 c1 c2 c3; obtain ⟨c0, c1, c2, c3⟩ := HA.out.cells)
                  | (go_at_call 6; go_at_call_of 6 Value.nilIface; refine (same_nil _ _).mono ?_; rintro e V ⟨rfl, rfl⟩))
                go_ret
                exact ⟨rfl, HA.out.1⟩
          · obtain ⟨p, rfl⟩ : ∃ p : Nat, port = p := ⟨port.toNat, by omega⟩
            have hp2 : p ≤ 65535 := by omega
            clear hpb
            have HBY := fun V => bytes_any x hx p hp2 V
            have HAB := fun V => addrBytes_any x hx p hp2 V
            obtain ⟨by0, hby⟩ : ∃ t : ByteArray, t = ⟨(bytesL x p).toArray⟩ := ⟨_, rfl⟩
            rw [← hby] at HBY HAB
            clear hby
            refine (HBY _).mono ?_
            rintro e V ⟨rfl, hV⟩
            have HA := hide (HA.out.on hV)
            clear hV c0 c1 c2 c3
            obtain ⟨c0, c1, c2, c3⟩ := HA.out.cells
            go_wp2_with (first
              | (go_at_call 6; go_at_call_of 6 Value.nilIface; refine (same_nil _ _).mono ?_; rintro e V ⟨rfl, rfl⟩)
              | (go_at_call 21; refine (HAB _).mono ?_; rintro e V ⟨rfl, hV⟩; have HA := hide (HA.out.on hV); clear hV c0 c1 c2 c3; obtain ⟨c0, c1, c2, c3⟩ := HA.out.cells)
              | (go_at_call 22; refine Hid.out ?_))
            refine hide ?_
            cases hrd : readR bs with
            | none =>
              have HRD : ∀ V, Calls Tryd.prog 22 #[.string bs] V fun e w' => e = .returned (.tuple #[.int .u32 0, .int .i64 0, .iface 23 (.int .i64 3)]) ∧ Below V.heap.size V w' := fun V => (read_any bs V).mono fun e w' h => by rw [hrd] at h; exact h
              have HAO : ∀ V, Calls Tryd.prog 23 #[.string bs] V fun e w' => e = .returned (.tuple #[.int .u32 0, .int .i64 0, .bool false]) ∧ Below V.heap.size V w' := fun V => (addrOf_any bs V).mono fun e w' h => by rw [hrd] at h; exact h
              clear hrd
              refine (HRD _).mono ?_
              rintro e V ⟨rfl, hV⟩
              have HA := hide (HA.out.on hV)
              clear hV c0 c1 c2 c3
              obtain ⟨c0, c1, c2, c3⟩ := HA.out.cells
              go_wp2_with (first
                | (go_at_call 23; refine (HAO _).mono ?_; rintro e V ⟨rfl, hV⟩; have HA := hide (HA.out.on hV); clear hV c0 c1 c2 c3; obtain ⟨c0, c1, c2, c3⟩ := HA.out.cells)
                | (go_at_call 6; refine (same_errno _ _ _).mono ?_; rintro e V ⟨rfl, rfl⟩))
              go_ret
              exact ⟨rfl, HA.out.1⟩
            | some ip0 =>
              obtain ⟨i0, p0⟩ := ip0
              have HRD : ∀ V, Calls Tryd.prog 22 #[.string bs] V fun e w' => e = .returned (.tuple #[.int .u32 i0, .int .i64 p0, .nilIface]) ∧ Below V.heap.size V w' := fun V => (read_any bs V).mono fun e w' h => by rw [hrd] at h; exact h
              have HAO : ∀ V, Calls Tryd.prog 23 #[.string bs] V fun e w' => e = .returned (.tuple #[.int .u32 i0, .int .i64 p0, .bool true]) ∧ Below V.heap.size V w' := fun V => (addrOf_any bs V).mono fun e w' h => by rw [hrd] at h; exact h
              clear hrd
              refine (HRD _).mono ?_
              rintro e V ⟨rfl, hV⟩
              have HA := hide (HA.out.on hV)
              clear hV c0 c1 c2 c3
              obtain ⟨c0, c1, c2, c3⟩ := HA.out.cells
              go_wp2_with (first
                | (go_at_call 23; refine (HAO _).mono ?_; rintro e V ⟨rfl, hV⟩; have HA := hide (HA.out.on hV); clear hV c0 c1 c2 c3; obtain ⟨c0, c1, c2, c3⟩ := HA.out.cells)
                | (go_at_call 6; go_at_call_of 6 Value.nilIface; refine (same_nil _ _).mono ?_; rintro e V ⟨rfl, rfl⟩))
              go_ret
              exact ⟨rfl, HA.out.1⟩
      · obtain ⟨n, hn⟩ : ∃ n, n = faultOf ip b lo hi := ⟨_, rfl⟩
        have hn0 : 0 < n := by omega
        have HNF : ∀ V, Calls Tryd.prog 12 #[netV ip b lo hi] V fun e w' => e = .returned (.int .i64 n) ∧ Below V.heap.size V w' := fun V => (netFault_any ip hip b lo hi hb hl hh V).mono fun e w' h => by rw [← hn] at h; exact h
        have hev : errV n = .iface 23 (.int .i64 n) := by unfold errV; rw [if_neg (by omega)]
        have HCK : ∀ V, Calls Tryd.prog 14 #[netV ip b lo hi] V fun e w' => e = .returned (.iface 23 (.int .i64 n)) ∧ Below V.heap.size V w' := fun V => (acheck_any ip hip b lo hi hb hl hh V).mono fun e w' h => by rw [← hn, hev] at h; exact h
        have HTX : ∀ V, Tab V → Calls Tryd.prog 13 #[netV ip b lo hi] V fun e w' => e = .returned (.tuple #[.string ⟨#[]⟩, .iface 23 (.int .i64 n)]) ∧ Below V.heap.size V w' := fun V hT => (text_any ip hip b lo hi hb hl hh V hT).mono fun e w' h => by unfold textV at h; rw [if_neg hf, ← hn, hev] at h; exact h
        have d0 : decide ((0 : Int) < (n : Int)) = true := by rw [decide_eq_true_eq]; omega
        have d1 : ((n : Int) == 0) = false := by rw [beq_eq_false_iff_ne]; omega
        clear hn hf hev
        go_wp2_with (first
          | (go_at_call 11; refine (nets_any _).mono ?_; rintro e V ⟨rfl, hV⟩; have HA := hide (HA.out.on hV); clear hV c0 c1 c2 c3; obtain ⟨c0, c1, c2, c3⟩ := HA.out.cells)
          | (go_at_call 12; refine (HNF _).mono ?_; rintro e V ⟨rfl, hV⟩; have HA := hide (HA.out.on hV); clear hV c0 c1 c2 c3; obtain ⟨c0, c1, c2, c3⟩ := HA.out.cells)
          | (go_at_call 13; refine (HTX _ HA.out.2.2).mono ?_; rintro e V ⟨rfl, hV⟩; have HA := hide (HA.out.on hV); clear hV c0 c1 c2 c3; obtain ⟨c0, c1, c2, c3⟩ := HA.out.cells))
        have g0 := cell_regrown c0
        have g1 := cell_regrown c1
        have g2 := cell_regrown c2
        have g3 := cell_regrown c3
        have cCK := fun d os => Calls.regrown_of (w := V) (d := d) (os := os) (HCK _)
        have cHH := fun d os => Calls.regrown_of (w := V) (d := d) (os := os) (HH _)
        have cHN := fun d os => Calls.regrown_of (w := V) (d := d) (os := os) (HHN _)
        have cS : ∀ d os, Calls Tryd.prog 6 #[.iface 23 (.int .i64 n), .int .i64 n] (grow (redrawn V d) os) fun e w'' => e = .returned (.bool true) ∧ ∃ p : Regrown, w'' = grow (redrawn V p.d) p.os := fun d os => regrown_same ((same_errno n n _).mono fun e w' ⟨he, hw⟩ => ⟨by rw [he, d0, Bool.true_and]; simp, hw⟩)
        refine wp_region_quiet_below (by kernel_rfl) (by kernel_rfl) ?_
        repeat (go_big_quiet_step (first | (go_at_call 14; exact cCK _ _) | (go_at_call 6; exact cS _ _) | (go_at_call 16; exact cHH _ _) | (go_at_call 17; exact cHN _ _)))
        refine wpQuiet_nil ?_
        intro _ hw'
        obtain ⟨⟨dq, osq⟩, hw''⟩ := hw'
        have HA := hide (HA.out.on (below_regrown V dq osq))
        rw [← hw''] at HA
        clear hw'' c0 c1 c2 c3
        obtain ⟨c0, c1, c2, c3⟩ := HA.out.cells
        go_wp2_with (first
          | (go_at_call 18; refine Hid.out ?_))
        refine hide ?_
        cases hpr : parseR s.data.toList with
        | none =>
          have HPA : ∀ V, Calls Tryd.prog 18 #[.string s] V fun e w' => e = .returned (.tuple #[netV 0 0 0 0, .iface 23 (.int .i64 4)]) ∧ Below V.heap.size V w' := fun V => (aparse_any s (by omega) V).mono fun e w' h => by rw [hpr] at h; exact h
          have HNO : ∀ V, Calls Tryd.prog 19 #[.string s] V fun e w' => e = .returned (.tuple #[netV 0 0 0 0, .bool false]) ∧ Below V.heap.size V w' := fun V => (netOf_any s (by omega) V).mono fun e w' h => by rw [hpr] at h; exact h
          clear hpr
          refine (HPA _).mono ?_
          rintro e V ⟨rfl, hV⟩
          have HA := hide (HA.out.on hV)
          clear hV c0 c1 c2 c3
          go_wp2_with (go_at_call 19; refine (HNO _).mono ?_; rintro e V2 ⟨rfl, hV2⟩; obtain ⟨HA, hx, hlt⟩ := ax_on HA hV2; clear hV2; refine Hid.out ?_)
          refine hide ?_
          have X0 : ∀ o, (V2.alloc o).cell? ⟨V.heap.size, 0, none⟩ = some (.int .u32 0) := fun o => cell_of_row _ _ 0 _ _ _ ((alloc_old _ o _ hlt).trans hx)
          have X1 : ∀ o, (V2.alloc o).cell? ⟨V.heap.size, 1, none⟩ = some (.int .i64 0) := fun o => cell_of_row _ _ 1 _ _ _ ((alloc_old _ o _ hlt).trans hx)
          have X2 : ∀ o, (V2.alloc o).cell? ⟨V.heap.size, 2, none⟩ = some (.int .i64 0) := fun o => cell_of_row _ _ 2 _ _ _ ((alloc_old _ o _ hlt).trans hx)
          have X3 : ∀ o, (V2.alloc o).cell? ⟨V.heap.size, 3, none⟩ = some (.int .i64 0) := fun o => cell_of_row _ _ 3 _ _ _ ((alloc_old _ o _ hlt).trans hx)
          go_wp2_with (first
            | (go_at_call 6; refine (same_errno _ _ _).mono ?_; rintro e V ⟨rfl, rfl⟩)
            | (go_at_call 20; refine Hid.out ?_))
          refine hide ?_
          have HA := hide (HA.out.on ((Below.refl _ _).alloc (Nat.le_refl _) (.cells #[.int .u32 0, .int .i64 0, .int .i64 0, .int .i64 0] 39)))
          obtain ⟨c0, c1, c2, c3⟩ := HA.out.cells
          clear X0 X1 X2 X3 hx hlt
          by_cases hpb : port < 0 ∨ 65535 < port
          · have hv : port < 0 ∨ 65535 < port := hpb
            refine (bytes_bad _ _ hv _).mono ?_
            clear hv
            rintro e V ⟨rfl, rfl⟩
            by_cases hp0 : port < 0
            · go_wp2_with (first
                | (go_at_call 6; refine (same_errno _ _ _).mono ?_; rintro e V ⟨rfl, rfl⟩)
                | (go_at_call 22; refine Hid.out ?_))
              refine hide ?_
              cases hrd : readR bs with
              | none =>
                have HRD : ∀ V, Calls Tryd.prog 22 #[.string bs] V fun e w' => e = .returned (.tuple #[.int .u32 0, .int .i64 0, .iface 23 (.int .i64 3)]) ∧ Below V.heap.size V w' := fun V => (read_any bs V).mono fun e w' h => by rw [hrd] at h; exact h
                have HAO : ∀ V, Calls Tryd.prog 23 #[.string bs] V fun e w' => e = .returned (.tuple #[.int .u32 0, .int .i64 0, .bool false]) ∧ Below V.heap.size V w' := fun V => (addrOf_any bs V).mono fun e w' h => by rw [hrd] at h; exact h
                clear hrd
                refine (HRD _).mono ?_
                rintro e V ⟨rfl, hV⟩
                have HA := hide (HA.out.on hV)
                clear hV c0 c1 c2 c3
                obtain ⟨c0, c1, c2, c3⟩ := HA.out.cells
                go_wp2_with (first
                  | (go_at_call 23; refine (HAO _).mono ?_; rintro e V ⟨rfl, hV⟩; have HA := hide (HA.out.on hV); clear hV c0 c1 c2 c3; obtain ⟨c0, c1, c2, c3⟩ := HA.out.cells)
                  | (go_at_call 6; refine (same_errno _ _ _).mono ?_; rintro e V ⟨rfl, rfl⟩))
                go_ret
                exact ⟨rfl, HA.out.1⟩
              | some ip0 =>
                obtain ⟨i0, p0⟩ := ip0
                have HRD : ∀ V, Calls Tryd.prog 22 #[.string bs] V fun e w' => e = .returned (.tuple #[.int .u32 i0, .int .i64 p0, .nilIface]) ∧ Below V.heap.size V w' := fun V => (read_any bs V).mono fun e w' h => by rw [hrd] at h; exact h
                have HAO : ∀ V, Calls Tryd.prog 23 #[.string bs] V fun e w' => e = .returned (.tuple #[.int .u32 i0, .int .i64 p0, .bool true]) ∧ Below V.heap.size V w' := fun V => (addrOf_any bs V).mono fun e w' h => by rw [hrd] at h; exact h
                clear hrd
                refine (HRD _).mono ?_
                rintro e V ⟨rfl, hV⟩
                have HA := hide (HA.out.on hV)
                clear hV c0 c1 c2 c3
                obtain ⟨c0, c1, c2, c3⟩ := HA.out.cells
                go_wp2_with (first
                  | (go_at_call 23; refine (HAO _).mono ?_; rintro e V ⟨rfl, hV⟩; have HA := hide (HA.out.on hV); clear hV c0 c1 c2 c3; obtain ⟨c0, c1, c2, c3⟩ := HA.out.cells)
                  | (go_at_call 6; go_at_call_of 6 Value.nilIface; refine (same_nil _ _).mono ?_; rintro e V ⟨rfl, rfl⟩))
                go_ret
                exact ⟨rfl, HA.out.1⟩
            · go_wp2_with (first
                | (go_at_call 6; refine (same_errno _ _ _).mono ?_; rintro e V ⟨rfl, rfl⟩)
                | (go_at_call 22; refine Hid.out ?_))
              refine hide ?_
              cases hrd : readR bs with
              | none =>
                have HRD : ∀ V, Calls Tryd.prog 22 #[.string bs] V fun e w' => e = .returned (.tuple #[.int .u32 0, .int .i64 0, .iface 23 (.int .i64 3)]) ∧ Below V.heap.size V w' := fun V => (read_any bs V).mono fun e w' h => by rw [hrd] at h; exact h
                have HAO : ∀ V, Calls Tryd.prog 23 #[.string bs] V fun e w' => e = .returned (.tuple #[.int .u32 0, .int .i64 0, .bool false]) ∧ Below V.heap.size V w' := fun V => (addrOf_any bs V).mono fun e w' h => by rw [hrd] at h; exact h
                clear hrd
                refine (HRD _).mono ?_
                rintro e V ⟨rfl, hV⟩
                have HA := hide (HA.out.on hV)
                clear hV c0 c1 c2 c3
                obtain ⟨c0, c1, c2, c3⟩ := HA.out.cells
                go_wp2_with (first
                  | (go_at_call 23; refine (HAO _).mono ?_; rintro e V ⟨rfl, hV⟩; have HA := hide (HA.out.on hV); clear hV c0 c1 c2 c3; obtain ⟨c0, c1, c2, c3⟩ := HA.out.cells)
                  | (go_at_call 6; refine (same_errno _ _ _).mono ?_; rintro e V ⟨rfl, rfl⟩))
                go_ret
                exact ⟨rfl, HA.out.1⟩
              | some ip0 =>
                obtain ⟨i0, p0⟩ := ip0
                have HRD : ∀ V, Calls Tryd.prog 22 #[.string bs] V fun e w' => e = .returned (.tuple #[.int .u32 i0, .int .i64 p0, .nilIface]) ∧ Below V.heap.size V w' := fun V => (read_any bs V).mono fun e w' h => by rw [hrd] at h; exact h
                have HAO : ∀ V, Calls Tryd.prog 23 #[.string bs] V fun e w' => e = .returned (.tuple #[.int .u32 i0, .int .i64 p0, .bool true]) ∧ Below V.heap.size V w' := fun V => (addrOf_any bs V).mono fun e w' h => by rw [hrd] at h; exact h
                clear hrd
                refine (HRD _).mono ?_
                rintro e V ⟨rfl, hV⟩
                have HA := hide (HA.out.on hV)
                clear hV c0 c1 c2 c3
                obtain ⟨c0, c1, c2, c3⟩ := HA.out.cells
                go_wp2_with (first
                  | (go_at_call 23; refine (HAO _).mono ?_; rintro e V ⟨rfl, hV⟩; have HA := hide (HA.out.on hV); clear hV c0 c1 c2 c3; obtain ⟨c0, c1, c2, c3⟩ := HA.out.cells)
                  | (go_at_call 6; go_at_call_of 6 Value.nilIface; refine (same_nil _ _).mono ?_; rintro e V ⟨rfl, rfl⟩))
                go_ret
                exact ⟨rfl, HA.out.1⟩
          · obtain ⟨p, rfl⟩ : ∃ p : Nat, port = p := ⟨port.toNat, by omega⟩
            have hp2 : p ≤ 65535 := by omega
            clear hpb
            have HBY := fun V => bytes_any x hx p hp2 V
            have HAB := fun V => addrBytes_any x hx p hp2 V
            obtain ⟨by0, hby⟩ : ∃ t : ByteArray, t = ⟨(bytesL x p).toArray⟩ := ⟨_, rfl⟩
            rw [← hby] at HBY HAB
            clear hby
            refine (HBY _).mono ?_
            rintro e V ⟨rfl, hV⟩
            have HA := hide (HA.out.on hV)
            clear hV c0 c1 c2 c3
            obtain ⟨c0, c1, c2, c3⟩ := HA.out.cells
            go_wp2_with (first
              | (go_at_call 6; go_at_call_of 6 Value.nilIface; refine (same_nil _ _).mono ?_; rintro e V ⟨rfl, rfl⟩)
              | (go_at_call 21; refine (HAB _).mono ?_; rintro e V ⟨rfl, hV⟩; have HA := hide (HA.out.on hV); clear hV c0 c1 c2 c3; obtain ⟨c0, c1, c2, c3⟩ := HA.out.cells)
              | (go_at_call 22; refine Hid.out ?_))
            refine hide ?_
            cases hrd : readR bs with
            | none =>
              have HRD : ∀ V, Calls Tryd.prog 22 #[.string bs] V fun e w' => e = .returned (.tuple #[.int .u32 0, .int .i64 0, .iface 23 (.int .i64 3)]) ∧ Below V.heap.size V w' := fun V => (read_any bs V).mono fun e w' h => by rw [hrd] at h; exact h
              have HAO : ∀ V, Calls Tryd.prog 23 #[.string bs] V fun e w' => e = .returned (.tuple #[.int .u32 0, .int .i64 0, .bool false]) ∧ Below V.heap.size V w' := fun V => (addrOf_any bs V).mono fun e w' h => by rw [hrd] at h; exact h
              clear hrd
              refine (HRD _).mono ?_
              rintro e V ⟨rfl, hV⟩
              have HA := hide (HA.out.on hV)
              clear hV c0 c1 c2 c3
              obtain ⟨c0, c1, c2, c3⟩ := HA.out.cells
              go_wp2_with (first
                | (go_at_call 23; refine (HAO _).mono ?_; rintro e V ⟨rfl, hV⟩; have HA := hide (HA.out.on hV); clear hV c0 c1 c2 c3; obtain ⟨c0, c1, c2, c3⟩ := HA.out.cells)
                | (go_at_call 6; refine (same_errno _ _ _).mono ?_; rintro e V ⟨rfl, rfl⟩))
              go_ret
              exact ⟨rfl, HA.out.1⟩
            | some ip0 =>
              obtain ⟨i0, p0⟩ := ip0
              have HRD : ∀ V, Calls Tryd.prog 22 #[.string bs] V fun e w' => e = .returned (.tuple #[.int .u32 i0, .int .i64 p0, .nilIface]) ∧ Below V.heap.size V w' := fun V => (read_any bs V).mono fun e w' h => by rw [hrd] at h; exact h
              have HAO : ∀ V, Calls Tryd.prog 23 #[.string bs] V fun e w' => e = .returned (.tuple #[.int .u32 i0, .int .i64 p0, .bool true]) ∧ Below V.heap.size V w' := fun V => (addrOf_any bs V).mono fun e w' h => by rw [hrd] at h; exact h
              clear hrd
              refine (HRD _).mono ?_
              rintro e V ⟨rfl, hV⟩
              have HA := hide (HA.out.on hV)
              clear hV c0 c1 c2 c3
              obtain ⟨c0, c1, c2, c3⟩ := HA.out.cells
              go_wp2_with (first
                | (go_at_call 23; refine (HAO _).mono ?_; rintro e V ⟨rfl, hV⟩; have HA := hide (HA.out.on hV); clear hV c0 c1 c2 c3; obtain ⟨c0, c1, c2, c3⟩ := HA.out.cells)
                | (go_at_call 6; go_at_call_of 6 Value.nilIface; refine (same_nil _ _).mono ?_; rintro e V ⟨rfl, rfl⟩))
              go_ret
              exact ⟨rfl, HA.out.1⟩
        | some net =>
          obtain ⟨pi, pb, pl, ph⟩ := net
          have HPA : ∀ V, Calls Tryd.prog 18 #[.string s] V fun e w' => e = .returned (.tuple #[netV pi pb pl ph, .nilIface]) ∧ Below V.heap.size V w' := fun V => (aparse_any s (by omega) V).mono fun e w' h => by rw [hpr] at h; exact h
          have HNO : ∀ V, Calls Tryd.prog 19 #[.string s] V fun e w' => e = .returned (.tuple #[netV pi pb pl ph, .bool true]) ∧ Below V.heap.size V w' := fun V => (netOf_any s (by omega) V).mono fun e w' h => by rw [hpr] at h; exact h
          clear hpr
          refine (HPA _).mono ?_
          rintro e V ⟨rfl, hV⟩
          have HA := hide (HA.out.on hV)
          clear hV c0 c1 c2 c3
          go_wp2_with (go_at_call 19; refine (HNO _).mono ?_; rintro e V2 ⟨rfl, hV2⟩; obtain ⟨HA, hx, hlt⟩ := ax_on HA hV2; clear hV2; refine Hid.out ?_)
          refine hide ?_
          have X0 : ∀ o, (V2.alloc o).cell? ⟨V.heap.size, 0, none⟩ = some (.int .u32 (pi : Int)) := fun o => cell_of_row _ _ 0 _ _ _ ((alloc_old _ o _ hlt).trans hx)
          have X1 : ∀ o, (V2.alloc o).cell? ⟨V.heap.size, 1, none⟩ = some (.int .i64 (pb : Int)) := fun o => cell_of_row _ _ 1 _ _ _ ((alloc_old _ o _ hlt).trans hx)
          have X2 : ∀ o, (V2.alloc o).cell? ⟨V.heap.size, 2, none⟩ = some (.int .i64 (pl : Int)) := fun o => cell_of_row _ _ 2 _ _ _ ((alloc_old _ o _ hlt).trans hx)
          have X3 : ∀ o, (V2.alloc o).cell? ⟨V.heap.size, 3, none⟩ = some (.int .i64 (ph : Int)) := fun o => cell_of_row _ _ 3 _ _ _ ((alloc_old _ o _ hlt).trans hx)
          go_wp2_with (first
            | (go_at_call 6; go_at_call_of 6 Value.nilIface; refine (same_nil _ _).mono ?_; rintro e V ⟨rfl, rfl⟩)
            | (go_at_call 20; refine Hid.out ?_))
          refine hide ?_
          have HA := hide (HA.out.on ((Below.refl _ _).alloc (Nat.le_refl _) (.cells #[.int .u32 (pi : Int), .int .i64 (pb : Int), .int .i64 (pl : Int), .int .i64 (ph : Int)] 39)))
          obtain ⟨c0, c1, c2, c3⟩ := HA.out.cells
          clear X0 X1 X2 X3 hx hlt
          by_cases hpb : port < 0 ∨ 65535 < port
          · have hv : port < 0 ∨ 65535 < port := hpb
            refine (bytes_bad _ _ hv _).mono ?_
            clear hv
            rintro e V ⟨rfl, rfl⟩
            by_cases hp0 : port < 0
            · go_wp2_with (first
                | (go_at_call 6; refine (same_errno _ _ _).mono ?_; rintro e V ⟨rfl, rfl⟩)
                | (go_at_call 22; refine Hid.out ?_))
              refine hide ?_
              cases hrd : readR bs with
              | none =>
                have HRD : ∀ V, Calls Tryd.prog 22 #[.string bs] V fun e w' => e = .returned (.tuple #[.int .u32 0, .int .i64 0, .iface 23 (.int .i64 3)]) ∧ Below V.heap.size V w' := fun V => (read_any bs V).mono fun e w' h => by rw [hrd] at h; exact h
                have HAO : ∀ V, Calls Tryd.prog 23 #[.string bs] V fun e w' => e = .returned (.tuple #[.int .u32 0, .int .i64 0, .bool false]) ∧ Below V.heap.size V w' := fun V => (addrOf_any bs V).mono fun e w' h => by rw [hrd] at h; exact h
                clear hrd
                refine (HRD _).mono ?_
                rintro e V ⟨rfl, hV⟩
                have HA := hide (HA.out.on hV)
                clear hV c0 c1 c2 c3
                obtain ⟨c0, c1, c2, c3⟩ := HA.out.cells
                go_wp2_with (first
                  | (go_at_call 23; refine (HAO _).mono ?_; rintro e V ⟨rfl, hV⟩; have HA := hide (HA.out.on hV); clear hV c0 c1 c2 c3; obtain ⟨c0, c1, c2, c3⟩ := HA.out.cells)
                  | (go_at_call 6; refine (same_errno _ _ _).mono ?_; rintro e V ⟨rfl, rfl⟩))
                go_ret
                exact ⟨rfl, HA.out.1⟩
              | some ip0 =>
                obtain ⟨i0, p0⟩ := ip0
                have HRD : ∀ V, Calls Tryd.prog 22 #[.string bs] V fun e w' => e = .returned (.tuple #[.int .u32 i0, .int .i64 p0, .nilIface]) ∧ Below V.heap.size V w' := fun V => (read_any bs V).mono fun e w' h => by rw [hrd] at h; exact h
                have HAO : ∀ V, Calls Tryd.prog 23 #[.string bs] V fun e w' => e = .returned (.tuple #[.int .u32 i0, .int .i64 p0, .bool true]) ∧ Below V.heap.size V w' := fun V => (addrOf_any bs V).mono fun e w' h => by rw [hrd] at h; exact h
                clear hrd
                refine (HRD _).mono ?_
                rintro e V ⟨rfl, hV⟩
                have HA := hide (HA.out.on hV)
                clear hV c0 c1 c2 c3
                obtain ⟨c0, c1, c2, c3⟩ := HA.out.cells
                go_wp2_with (first
                  | (go_at_call 23; refine (HAO _).mono ?_; rintro e V ⟨rfl, hV⟩; have HA := hide (HA.out.on hV); clear hV c0 c1 c2 c3; obtain ⟨c0, c1, c2, c3⟩ := HA.out.cells)
                  | (go_at_call 6; go_at_call_of 6 Value.nilIface; refine (same_nil _ _).mono ?_; rintro e V ⟨rfl, rfl⟩))
                go_ret
                exact ⟨rfl, HA.out.1⟩
            · go_wp2_with (first
                | (go_at_call 6; refine (same_errno _ _ _).mono ?_; rintro e V ⟨rfl, rfl⟩)
                | (go_at_call 22; refine Hid.out ?_))
              refine hide ?_
              cases hrd : readR bs with
              | none =>
                have HRD : ∀ V, Calls Tryd.prog 22 #[.string bs] V fun e w' => e = .returned (.tuple #[.int .u32 0, .int .i64 0, .iface 23 (.int .i64 3)]) ∧ Below V.heap.size V w' := fun V => (read_any bs V).mono fun e w' h => by rw [hrd] at h; exact h
                have HAO : ∀ V, Calls Tryd.prog 23 #[.string bs] V fun e w' => e = .returned (.tuple #[.int .u32 0, .int .i64 0, .bool false]) ∧ Below V.heap.size V w' := fun V => (addrOf_any bs V).mono fun e w' h => by rw [hrd] at h; exact h
                clear hrd
                refine (HRD _).mono ?_
                rintro e V ⟨rfl, hV⟩
                have HA := hide (HA.out.on hV)
                clear hV c0 c1 c2 c3
                obtain ⟨c0, c1, c2, c3⟩ := HA.out.cells
                go_wp2_with (first
                  | (go_at_call 23; refine (HAO _).mono ?_; rintro e V ⟨rfl, hV⟩; have HA := hide (HA.out.on hV); clear hV c0 c1 c2 c3; obtain ⟨c0, c1, c2, c3⟩ := HA.out.cells)
                  | (go_at_call 6; refine (same_errno _ _ _).mono ?_; rintro e V ⟨rfl, rfl⟩))
                go_ret
                exact ⟨rfl, HA.out.1⟩
              | some ip0 =>
                obtain ⟨i0, p0⟩ := ip0
                have HRD : ∀ V, Calls Tryd.prog 22 #[.string bs] V fun e w' => e = .returned (.tuple #[.int .u32 i0, .int .i64 p0, .nilIface]) ∧ Below V.heap.size V w' := fun V => (read_any bs V).mono fun e w' h => by rw [hrd] at h; exact h
                have HAO : ∀ V, Calls Tryd.prog 23 #[.string bs] V fun e w' => e = .returned (.tuple #[.int .u32 i0, .int .i64 p0, .bool true]) ∧ Below V.heap.size V w' := fun V => (addrOf_any bs V).mono fun e w' h => by rw [hrd] at h; exact h
                clear hrd
                refine (HRD _).mono ?_
                rintro e V ⟨rfl, hV⟩
                have HA := hide (HA.out.on hV)
                clear hV c0 c1 c2 c3
                obtain ⟨c0, c1, c2, c3⟩ := HA.out.cells
                go_wp2_with (first
                  | (go_at_call 23; refine (HAO _).mono ?_; rintro e V ⟨rfl, hV⟩; have HA := hide (HA.out.on hV); clear hV c0 c1 c2 c3; obtain ⟨c0, c1, c2, c3⟩ := HA.out.cells)
                  | (go_at_call 6; go_at_call_of 6 Value.nilIface; refine (same_nil _ _).mono ?_; rintro e V ⟨rfl, rfl⟩))
                go_ret
                exact ⟨rfl, HA.out.1⟩
          · obtain ⟨p, rfl⟩ : ∃ p : Nat, port = p := ⟨port.toNat, by omega⟩
            have hp2 : p ≤ 65535 := by omega
            clear hpb
            have HBY := fun V => bytes_any x hx p hp2 V
            have HAB := fun V => addrBytes_any x hx p hp2 V
            obtain ⟨by0, hby⟩ : ∃ t : ByteArray, t = ⟨(bytesL x p).toArray⟩ := ⟨_, rfl⟩
            rw [← hby] at HBY HAB
            clear hby
            refine (HBY _).mono ?_
            rintro e V ⟨rfl, hV⟩
            have HA := hide (HA.out.on hV)
            clear hV c0 c1 c2 c3
            obtain ⟨c0, c1, c2, c3⟩ := HA.out.cells
            go_wp2_with (first
              | (go_at_call 6; go_at_call_of 6 Value.nilIface; refine (same_nil _ _).mono ?_; rintro e V ⟨rfl, rfl⟩)
              | (go_at_call 21; refine (HAB _).mono ?_; rintro e V ⟨rfl, hV⟩; have HA := hide (HA.out.on hV); clear hV c0 c1 c2 c3; obtain ⟨c0, c1, c2, c3⟩ := HA.out.cells)
              | (go_at_call 22; refine Hid.out ?_))
            refine hide ?_
            cases hrd : readR bs with
            | none =>
              have HRD : ∀ V, Calls Tryd.prog 22 #[.string bs] V fun e w' => e = .returned (.tuple #[.int .u32 0, .int .i64 0, .iface 23 (.int .i64 3)]) ∧ Below V.heap.size V w' := fun V => (read_any bs V).mono fun e w' h => by rw [hrd] at h; exact h
              have HAO : ∀ V, Calls Tryd.prog 23 #[.string bs] V fun e w' => e = .returned (.tuple #[.int .u32 0, .int .i64 0, .bool false]) ∧ Below V.heap.size V w' := fun V => (addrOf_any bs V).mono fun e w' h => by rw [hrd] at h; exact h
              clear hrd
              refine (HRD _).mono ?_
              rintro e V ⟨rfl, hV⟩
              have HA := hide (HA.out.on hV)
              clear hV c0 c1 c2 c3
              obtain ⟨c0, c1, c2, c3⟩ := HA.out.cells
              go_wp2_with (first
                | (go_at_call 23; refine (HAO _).mono ?_; rintro e V ⟨rfl, hV⟩; have HA := hide (HA.out.on hV); clear hV c0 c1 c2 c3; obtain ⟨c0, c1, c2, c3⟩ := HA.out.cells)
                | (go_at_call 6; refine (same_errno _ _ _).mono ?_; rintro e V ⟨rfl, rfl⟩))
              go_ret
              exact ⟨rfl, HA.out.1⟩
            | some ip0 =>
              obtain ⟨i0, p0⟩ := ip0
              have HRD : ∀ V, Calls Tryd.prog 22 #[.string bs] V fun e w' => e = .returned (.tuple #[.int .u32 i0, .int .i64 p0, .nilIface]) ∧ Below V.heap.size V w' := fun V => (read_any bs V).mono fun e w' h => by rw [hrd] at h; exact h
              have HAO : ∀ V, Calls Tryd.prog 23 #[.string bs] V fun e w' => e = .returned (.tuple #[.int .u32 i0, .int .i64 p0, .bool true]) ∧ Below V.heap.size V w' := fun V => (addrOf_any bs V).mono fun e w' h => by rw [hrd] at h; exact h
              clear hrd
              refine (HRD _).mono ?_
              rintro e V ⟨rfl, hV⟩
              have HA := hide (HA.out.on hV)
              clear hV c0 c1 c2 c3
              obtain ⟨c0, c1, c2, c3⟩ := HA.out.cells
              go_wp2_with (first
                | (go_at_call 23; refine (HAO _).mono ?_; rintro e V ⟨rfl, hV⟩; have HA := hide (HA.out.on hV); clear hV c0 c1 c2 c3; obtain ⟨c0, c1, c2, c3⟩ := HA.out.cells)
                | (go_at_call 6; go_at_call_of 6 Value.nilIface; refine (same_nil _ _).mono ?_; rintro e V ⟨rfl, rfl⟩))
              go_ret
              exact ⟨rfl, HA.out.1⟩
end Go.Proofs.YtkeljbekbgabpaaDoor
