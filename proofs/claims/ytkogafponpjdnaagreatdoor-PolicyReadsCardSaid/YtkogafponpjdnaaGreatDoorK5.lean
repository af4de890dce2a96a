/- addr.Parse. -/
import Derived.Test.YtkogafponpjdnaaGreatDoorK4
import Derived.Lib.QuietBelow
namespace Go.Proofs.YtkogafponpjdnaaGreatDoor
open Go.RowKit

def parseV : Option (Nat × Nat × Nat × Nat) → Value
  | none => .tuple #[netV 0 0 0 0, .iface 75 (.int .i64 4)]
  | some (ip, b, lo, hi) => .tuple #[netV ip b lo hi, .nilIface]

abbrev netC (ip b lo hi : Nat) : Array Value := #[.int .u32 ip, .int .i64 b, .int .i64 lo, .int .i64 hi]
theorem size_net : (Tryz.prog.info? 67).map (·.size) = some 4 := by kernel_rfl

/-- A net and a word handed back, the net out of its block. -/
theorem results_net {fn : Func} {p u : Tmp} (h : fn.results = #[.cell p 67, .tmp u]) (tmps : Array Value) (w : World) (g ip b lo hi : Nat) (v : Value)
    (hp : tmps.getD p undef = .pointer (some ⟨g, 0, none⟩)) (hv : tmps.getD u undef = v) (hg : w.heap[g]? = some (.cells (netC ip b lo hi) 67 (0, 0))) :
    (results fn tmps).run Tryz.prog w = .ok (.tuple #[netV ip b lo hi, v]) w := by
  rw [results_cell_tmp h, hp, hv]
  have hl := run_loadVar_row (P := Tryz.prog) w g 67 67 (netC ip b lo hi) (0, 0) _ hg Tryz.underlying67 rfl size_net
  simp [asAddr, hl]

/-- The world in the midst of Parse. -/
def NW (W : World) (ns : List Nat) (ip b lo hi m : Nat) : World := ((W.alloc (.cells (padN ns) 159)).alloc (.cells (netC ip b lo hi) 67)).drewN m
theorem NW_old (W : World) (ns : List Nat) (ip b lo hi m g : Nat) (hg : g < W.heap.size) : (NW W ns ip b lo hi m).heap[g]? = W.heap[g]? := by
  show ((W.alloc _).alloc _).heap[g]? = _
  rw [show ((W.alloc (.cells (padN ns) 159)).alloc (.cells (netC ip b lo hi) 67)).heap[g]? = (W.alloc (.cells (padN ns) 159)).heap[g]? from Go.heap_alloc_old _ _ (h := by simp; omega)]
  exact Go.heap_alloc_old _ _ (h := hg)
theorem NW_nums (W : World) (ns : List Nat) (ip b lo hi m : Nat) : (NW W ns ip b lo hi m).heap[W.heap.size]? = some (.cells (padN ns) 159 (0, 0)) := heap_alloc2_old W _ _
theorem NW_net (W : World) (ns : List Nat) (ip b lo hi m : Nat) : (NW W ns ip b lo hi m).heap[W.heap.size + 1]? = some (.cells (netC ip b lo hi) 67 (0, 0)) := heap_alloc2_new W _ _
theorem NW_num (W : World) (ns : List Nat) (ip b lo hi m k : Nat) (hk : k < 7) : (NW W ns ip b lo hi m).cell? ⟨W.heap.size, k, none⟩ = some (.int .i64 (ns.getD k 0)) := by
  rw [cell_of_row _ _ k _ _ _ (NW_nums W ns ip b lo hi m), padN_get ns k hk]
theorem NW_row (W : World) (ns : List Nat) (ip b lo hi m ip' b' lo' hi' : Nat) : (NW W ns ip b lo hi m).setRow (W.heap.size + 1) (netC ip' b' lo' hi') = NW W ns ip' b' lo' hi' m := by
  have h := World.setRow_alloc_new (W.alloc (.cells (padN ns) 159)) (netC ip b lo hi) (netC ip' b' lo' hi') 67
  rw [show (W.alloc (.cells (padN ns) 159)).heap.size = W.heap.size + 1 by simp] at h
  exact congrArg (World.drewN · m) h
theorem NW_c0 (W : World) (ns : List Nat) (ip b lo hi m : Nat) : (NW W ns ip b lo hi m).cell? ⟨W.heap.size + 1, 0, none⟩ = some (.int .u32 ip) := cell_of_row _ _ 0 _ _ _ (NW_net W ns ip b lo hi m)
theorem NW_c1 (W : World) (ns : List Nat) (ip b lo hi m : Nat) : (NW W ns ip b lo hi m).cell? ⟨W.heap.size + 1, 1, none⟩ = some (.int .i64 b) := cell_of_row _ _ 1 _ _ _ (NW_net W ns ip b lo hi m)
theorem NW_c2 (W : World) (ns : List Nat) (ip b lo hi m : Nat) : (NW W ns ip b lo hi m).cell? ⟨W.heap.size + 1, 2, none⟩ = some (.int .i64 lo) := cell_of_row _ _ 2 _ _ _ (NW_net W ns ip b lo hi m)
theorem NW_c3 (W : World) (ns : List Nat) (ip b lo hi m : Nat) : (NW W ns ip b lo hi m).cell? ⟨W.heap.size + 1, 3, none⟩ = some (.int .i64 hi) := cell_of_row _ _ 3 _ _ _ (NW_net W ns ip b lo hi m)
theorem NW_fro (W : World) (ns : List Nat) (ip b lo hi m k : Nat) : (NW W ns ip b lo hi m).frozen? ⟨W.heap.size + 1, k, none⟩ = false := frozen_of_row _ _ k _ _ (NW_net W ns ip b lo hi m)
theorem NW_s0 (W : World) (ns : List Nat) (ip b lo hi m x : Nat) : (NW W ns ip b lo hi m).setCell ⟨W.heap.size + 1, 0, none⟩ (.int .u32 x) = NW W ns x b lo hi m := by
  rw [setCell_eq_setRow _ _ 0 _ _ _ _ (NW_net W ns ip b lo hi m)]; exact NW_row W ns ip b lo hi m x b lo hi
theorem NW_s1 (W : World) (ns : List Nat) (ip b lo hi m x : Nat) : (NW W ns ip b lo hi m).setCell ⟨W.heap.size + 1, 1, none⟩ (.int .i64 x) = NW W ns ip x lo hi m := by
  rw [setCell_eq_setRow _ _ 1 _ _ _ _ (NW_net W ns ip b lo hi m)]; exact NW_row W ns ip b lo hi m ip x lo hi
theorem NW_s2 (W : World) (ns : List Nat) (ip b lo hi m x : Nat) : (NW W ns ip b lo hi m).setCell ⟨W.heap.size + 1, 2, none⟩ (.int .i64 x) = NW W ns ip b x hi m := by
  rw [setCell_eq_setRow _ _ 2 _ _ _ _ (NW_net W ns ip b lo hi m)]; exact NW_row W ns ip b lo hi m ip b x hi
theorem NW_s3 (W : World) (ns : List Nat) (ip b lo hi m x : Nat) : (NW W ns ip b lo hi m).setCell ⟨W.heap.size + 1, 3, none⟩ (.int .i64 x) = NW W ns ip b lo x m := by
  rw [setCell_eq_setRow _ _ 3 _ _ _ _ (NW_net W ns ip b lo hi m)]; exact NW_row W ns ip b lo hi m ip b lo x
theorem NW_drewN (W : World) (ns : List Nat) (ip b lo hi m n : Nat) : (NW W ns ip b lo hi m).drewN n = NW W ns ip b lo hi (m + n) := by unfold NW; rw [World.drewN_drewN]
theorem NW_start (W : World) (ns : List Nat) : NW W ns 0 0 0 0 0 = (W.alloc (.cells (padN ns) 159)).alloc (.cells (netC 0 0 0 0) 67) := World.drewN_zero _
theorem NW_below (W : World) (ns : List Nat) (ip b lo hi m : Nat) : Below W.heap.size W (NW W ns ip b lo hi m) := below_drewN' (((Below.refl _ _).alloc (Nat.le_refl _) _).alloc (by simp) _) m
theorem NW_drew (W : World) (ns : List Nat) (ip b lo hi m : Nat) : (NW W ns ip b lo hi m).drew = NW W ns ip b lo hi (m + 1) := NW_drewN W ns ip b lo hi m 1
attribute [local go_sem] NW_drew NW_num NW_c0 NW_c1 NW_c2 NW_c3 NW_fro NW_s0 NW_s1 NW_s2 NW_s3 NW_drewN

/-- A net laid cell by cell into the result's block. -/
theorem res_start {X : World} {g : Nat} (hX : X.heap[g]? = some (.cells (netC 0 0 0 0) 67 (0, 0))) :
    X.cell? ⟨g, 0, none⟩ = some (.int .u32 0) ∧ (∀ k, X.frozen? ⟨g, k, none⟩ = false) ∧ (∀ a, X.setCell ⟨g, 0, none⟩ (.int .u32 a) = X.setRow g #[.int .u32 a, .int .i64 0, .int .i64 0, .int .i64 0]) :=
  ⟨cell_of_row _ _ 0 _ _ _ hX, fun k => frozen_of_row _ _ k _ _ hX, fun _ => setCell_eq_setRow _ _ 0 _ _ _ _ hX⟩
theorem setRow_twice (X : World) (g : Nat) (c0 c1 c2 : Array Value) (hX : X.heap[g]? = some (.cells c0 67 (0, 0))) : (X.setRow g c1).setRow g c2 = X.setRow g c2 := by
  have hg := (Array.getElem?_eq_some_iff.1 hX).1
  unfold World.setRow
  congr 1
  apply Array.ext_getElem?
  intro j
  simp only [Array.getElem?_modify]
  by_cases h : g = j
  · subst h
    simp [hX]
  · simp [h]
theorem res_row {X : World} {g : Nat} {c0 : Array Value} (hX : X.heap[g]? = some (.cells c0 67 (0, 0))) :
    (∀ cs k, (X.setRow g cs).cell? ⟨g, k, none⟩ = cs[k]?) ∧ (∀ cs k, (X.setRow g cs).frozen? ⟨g, k, none⟩ = false) ∧ (∀ cs k v, (X.setRow g cs).setCell ⟨g, k, none⟩ v = X.setRow g (cs.setIfInBounds k v)) :=
  ⟨fun cs k => cell_of_row _ _ k _ _ _ (setRow_heap _ _ _ cs _ _ hX), fun cs k => frozen_of_row _ _ k _ _ (setRow_heap _ _ _ cs _ _ hX), fun cs k v => by
    rw [setCell_eq_setRow _ _ k _ _ _ _ (setRow_heap _ _ _ cs _ _ hX), setRow_twice X g c0 _ _ hX]⟩

def ipP (ns : List Nat) : Nat → Nat
  | 0 => 0
  | k + 1 => ipP ns k * 256 + ns.getD k 0
theorem ipP_succ (ns : List Nat) (k : Nat) : ipP ns (k + 1) = ipP ns k * 256 + ns.getD k 0 := rfl

theorem alloc_old (W : World) (o : Obj) (g : Nat) (hg : g < W.heap.size) : (W.alloc o).heap[g]? = W.heap[g]? := Go.heap_alloc_old _ _ (h := hg)
theorem ipP_or (ns : List Nat) (k : Nat) (hk : k < 4) (hip : ipP ns k < 256 ^ k) (hb : ns.getD k 0 ≤ 255) : bits .or .u32 ((ipP ns k : Int) * 256 % 4294967296) (ns.getD k 0 : Int) = ((ipP ns (k + 1) : Nat) : Int) := by
  have h3 : ipP ns k < 16777216 := Nat.lt_of_lt_of_le hip (Nat.pow_le_pow_right (n := 256) (j := 3) (by decide) (by omega))
  rw [show (ipP ns k : Int) * 256 % 4294967296 = (ipP ns k : Int) * 256 by omega, u32_or8 _ _ h3 (by omega)]
  rfl
theorem parse_big {s : List UInt8} {ns : List Nat} (hs : splitN signsL s = some ns) (k : Nat) (hk : k < 4) (hb : ¬ ns.getD k 0 ≤ 255) : parseR s = none := by
  obtain ⟨hlen, _, _⟩ := splitN_some _ _ _ hs
  obtain ⟨a, b, c, d, e, f, g, rfl⟩ := len7 hlen
  unfold parseR
  rw [hs]
  show (if _ then _ else _) = _
  rw [if_neg]
  rintro ⟨h1, h2, h3, h4, _⟩
  match k, hk with
  | 0, _ => exact hb h1
  | 1, _ => exact hb h2
  | 2, _ => exact hb h3
  | 3, _ => exact hb h4

theorem nw_after {w W W2 : World} {ns : List Nat} {ip b lo hi m : Nat} (hwW : w.heap.size < W.heap.size) (hR : W.heap[w.heap.size]? = some (.cells (netC 0 0 0 0) 67 (0, 0)))
    (h : Below (NW W ns ip b lo hi m).heap.size (NW W ns ip b lo hi m) W2) : W2.heap[w.heap.size]? = some (.cells (netC 0 0 0 0) 67 (0, 0)) ∧ W2.heap[W.heap.size + 1]? = some (.cells (netC ip b lo hi) 67 (0, 0)) ∧ Below W.heap.size W W2 := by
  have hz : (NW W ns ip b lo hi m).heap.size = W.heap.size + 2 := by show ((W.alloc _).alloc _).heap.size = _; simp
  exact ⟨(h.block _ (by omega)).trans ((NW_old _ _ _ _ _ _ _ _ hwW).trans hR), (h.block _ (by omega)).trans (NW_net _ _ _ _ _ _ _), (NW_below _ _ _ _ _ _ _).trans (h.mono (by omega))⟩
theorem getD_lt {ns : List Nat} (h : ∀ n ∈ ns, n < 100000) (k : Nat) : ns.getD k 0 < 100000 := by
  rw [List.getD_eq_getElem?_getD]
  by_cases hk : k < ns.length
  · rw [List.getElem?_eq_getElem hk]; exact h _ (List.getElem_mem hk)
  · rw [List.getElem?_eq_none (by omega)]; exact Nat.lt_of_lt_of_le Nat.one_pos (by decide)
theorem parse_end {s : List UInt8} {ns : List Nat} (hs : splitN signsL s = some ns) (hle : ∀ j, j < 4 → ns.getD j 0 ≤ 255) :
    parseR s = if faultOf (ipP ns 4) (ns.getD 4 0) (ns.getD 5 0) (ns.getD 6 0) = 0 then some (ipP ns 4, ns.getD 4 0, ns.getD 5 0, ns.getD 6 0) else none := by
  obtain ⟨hlen, _, _⟩ := splitN_some _ _ _ hs
  obtain ⟨a, b, c, d, e, f, g, rfl⟩ := len7 hlen
  have h0 : a ≤ 255 := hle 0 (by omega)
  have h1 : b ≤ 255 := hle 1 (by omega)
  have h2 : c ≤ 255 := hle 2 (by omega)
  have h3 : d ≤ 255 := hle 3 (by omega)
  have hi : ipP [a, b, c, d, e, f, g] 4 = ipOf a b c d := by
    show (((0 * 256 + a) * 256 + b) * 256 + c) * 256 + d = ((a * 256 + b) * 256 + c) * 256 + d
    rw [Nat.zero_mul, Nat.zero_add]
  rw [hi]
  unfold parseR
  rw [hs]
  show (if _ then _ else _) = if faultOf (ipOf a b c d) (e : Nat) (f : Nat) (g : Nat) = 0 then _ else _
  by_cases hf : faultOf (ipOf a b c d) (e : Nat) (f : Nat) (g : Nat) = 0
  · rw [if_pos ⟨h0, h1, h2, h3, hf⟩, if_pos hf]; rfl
  · rw [if_neg (fun h => hf h.2.2.2.2), if_neg hf]

theorem aparse_any (s : ByteArray) (hs : s.size < 4294967296) (w : World) :
    Calls Tryz.prog 94 #[.string s] w fun e w' => e = .returned (parseV (parseR s.data.toList)) ∧ Below w.heap.size w w' := by
  go_enter Tryz.func94, Tryz.ntmps94
  go_wp2_with (go_at_call 118; refine (split_any s hs _).mono ?_; rintro e W ⟨⟨ns, ok, rfl, hsp⟩, hW⟩; have HSP := hide hsp; clear hsp; refine Hid.out ?_)
  refine hide ?_
  have hwW : w.heap.size < W.heap.size := by have := hW.size; simp at this; omega
  have hR : W.heap[w.heap.size]? = some (.cells (netC 0 0 0 0) 67 (0, 0)) := (hW.block _ (by simp)).trans (heap_alloc_new w _)
  have HW := hide (show Below w.heap.size w W from ((Below.refl w.heap.size w).alloc (Nat.le_refl _) _).trans (hW.mono (by simp)))
  clear hW
  cases ok with
  | false =>
    have HV := hide (show parseR s.data.toList = none by unfold parseR; rw [HSP.out]; rfl)
    have hR2 : (W.alloc (.cells (padN ns) 159)).heap[w.heap.size]? = some (.cells (netC 0 0 0 0) 67 (0, 0)) := (alloc_old _ _ _ hwW).trans hR
    obtain ⟨r1, r2, r3⟩ := res_start hR2
    obtain ⟨r4, r5, r6⟩ := res_row hR2
    go_wp2_with (first
      | (refine wpList_store_row rfl 159 _ _ rfl W.heap.size (padN ns) rfl rfl 159 (padN []) (heap_alloc_new _ _) size_arr7 rfl (padN_one ns) ?_; rw [World.setRow_alloc_new])
      | (refine bodyPost_ret (results_net rfl _ _ w.heap.size 0 0 0 0 (.iface 75 (.int .i64 4)) rfl rfl (setRow_heap _ _ _ _ _ _ hR2)) rfl ⟨?_, ?_⟩; (· rw [HV.out]; rfl); (· exact below_setRow (HW.out.alloc (by omega) _) (Nat.le_refl _) _)))
  | true =>
    have hsp : splitN signsL s.data.toList = some ns := HSP.out
    obtain ⟨hlen, hmem, _⟩ := splitN_some _ _ _ hsp
    go_wp2_with (refine wpList_store_row rfl 159 _ _ rfl W.heap.size (padN ns) rfl rfl 159 (padN []) (heap_alloc_new _ _) size_arr7 rfl (padN_one ns) ?_; rw [World.setRow_alloc_new])
    go_loopw [17] (fun i w' => ∃ k m : Nat, k ≤ 4 ∧ i = .int .i64 k ∧ w' = NW W ns (ipP ns k) 0 0 0 m ∧ (∀ j, j < k → ns.getD j 0 ≤ 255) ∧ ipP ns k < 256 ^ k) (fun i _ => 4 - (intOf i).toNat)
    case atStart => exact ⟨0, 0, by omega, rfl, (NW_start W ns).symm, fun j hj => by omega, Nat.one_pos⟩
    case round =>
      obtain ⟨k, m, hk, rfl, rfl, hle, hip⟩ := hrel
      by_cases hlt : k < 4
      · obtain ⟨nk, hnk⟩ : ∃ nk, nk = ns.getD k 0 := ⟨_, rfl⟩
        have hN : ∀ m, (NW W ns (ipP ns k) 0 0 0 m).cell? ⟨W.heap.size, k, none⟩ = some (.int .i64 nk) := fun m => by rw [hnk]; exact NW_num W ns (ipP ns k) 0 0 0 m k (by omega)
        by_cases hb : ns.getD k 0 ≤ 255
        · have HE := ipP_or ns k hlt hip hb
          have hip2 : ipP ns (k + 1) < 256 ^ (k + 1) := by rw [ipP_succ, Nat.pow_succ]; omega
          rw [← hnk] at HE hb
          have HK := hide hnk
          clear hnk
          go_wp2
          go_region
          go_wp2
          go_round
          case rel => exact ⟨k + 1, m + 1, by omega, by go_num, rfl, fun j hj => by
            rcases Nat.lt_or_ge j k with h | h
            · exact hle j h
            · rw [show j = k by omega, ← HK.out]; exact hb, hip2⟩
          case measure => simp [intOf]; omega
        · have HV := hide (show parseR s.data.toList = none from parse_big hsp k hlt hb)
          rw [← hnk] at hb
          clear hnk
          have hR2 : (NW W ns (ipP ns k) 0 0 0 m).heap[w.heap.size]? = some (.cells (netC 0 0 0 0) 67 (0, 0)) := (NW_old _ _ _ _ _ _ _ _ hwW).trans hR
          obtain ⟨r1, r2, r3⟩ := res_start hR2
          obtain ⟨r4, r5, r6⟩ := res_row hR2
          go_wp2_with (first
            | (refine bodyPost_ret (results_net rfl _ _ w.heap.size 0 0 0 0 (.iface 75 (.int .i64 4)) rfl rfl (setRow_heap _ _ _ _ _ _ hR2)) rfl ⟨?_, ?_⟩; (· rw [HV.out]; rfl); (· exact below_setRow (HW.out.trans ((NW_below _ _ _ _ _ _ _).mono (by omega))) (Nat.le_refl _) _)))
      · obtain rfl : k = 4 := by omega
        obtain ⟨n4, h4⟩ : ∃ n, n = ns.getD 4 0 := ⟨_, rfl⟩
        obtain ⟨n5, h5⟩ : ∃ n, n = ns.getD 5 0 := ⟨_, rfl⟩
        obtain ⟨n6, h6⟩ : ∃ n, n = ns.getD 6 0 := ⟨_, rfl⟩
        obtain ⟨ip, h7⟩ : ∃ n, n = ipP ns 4 := ⟨_, rfl⟩
        have HP := hide (parse_end hsp hle)
        have hN4 : ∀ a b c d m, (NW W ns a b c d m).cell? ⟨W.heap.size, 4, none⟩ = some (.int .i64 n4) := fun a b c d m => by rw [h4]; exact NW_num W ns a b c d m 4 (by omega)
        have hN5 : ∀ a b c d m, (NW W ns a b c d m).cell? ⟨W.heap.size, 5, none⟩ = some (.int .i64 n5) := fun a b c d m => by rw [h5]; exact NW_num W ns a b c d m 5 (by omega)
        have hN6 : ∀ a b c d m, (NW W ns a b c d m).cell? ⟨W.heap.size, 6, none⟩ = some (.int .i64 n6) := fun a b c d m => by rw [h6]; exact NW_num W ns a b c d m 6 (by omega)
        have hip4 : ip < 4294967296 := by rw [h7]; exact hip
        have l4 : n4 < 100000 := by rw [h4]; exact getD_lt hmem 4
        have l5 : n5 < 100000 := by rw [h5]; exact getD_lt hmem 5
        have l6 : n6 < 100000 := by rw [h6]; exact getD_lt hmem 6
        rw [← h4, ← h5, ← h6, ← h7] at HP
        rw [← h7]
        clear h4 h5 h6 h7 hip hle hsp
        by_cases hf : faultOf ip n4 n5 n6 = 0
        · have HV := hide (show parseR s.data.toList = some (ip, n4, n5, n6) by rw [HP.out, if_pos hf])
          have HE := hide (show errV (faultOf ip n4 n5 n6) = .nilIface by rw [hf]; rfl)
          clear hf
          go_wp2
          go_region
          go_wp2_with (go_at_call 68; refine (acheck_any ip hip4 n4 n5 n6 ⟨by omega, by omega⟩ ⟨by omega, by omega⟩ ⟨by omega, by omega⟩ _).mono ?_; rw [HE.out]; rintro e W2 ⟨rfl, hW2⟩; obtain ⟨hR2, hN2, hB2⟩ := nw_after hwW hR hW2; clear hW2; obtain ⟨r1, r2, r3⟩ := res_start hR2; obtain ⟨r4, r5, r6⟩ := res_row hR2; have c0 := cell_of_row _ _ 0 _ _ _ hN2; have c1 := cell_of_row _ _ 1 _ _ _ hN2; have c2 := cell_of_row _ _ 2 _ _ _ hN2; have c3 := cell_of_row _ _ 3 _ _ _ hN2; refine Hid.out ?_)
          refine hide ?_
          go_wp2_with (refine bodyPost_ret (results_net rfl _ _ w.heap.size ip n4 n5 n6 .nilIface rfl rfl (setRow_heap _ _ _ _ _ _ hR2)) rfl ⟨?_, ?_⟩; (· rw [HV.out]; rfl); (· exact below_setRow (HW.out.trans (hB2.mono (by omega))) (Nat.le_refl _) _))
        · have HV := hide (show parseR s.data.toList = none by rw [HP.out, if_neg hf])
          have HE := hide (show errV (faultOf ip n4 n5 n6) = .iface 75 (.int .i64 (faultOf ip n4 n5 n6 : Nat)) by unfold errV; rw [if_neg hf])
          clear hf
          go_wp2
          go_region
          go_wp2_with (go_at_call 68; refine (acheck_any ip hip4 n4 n5 n6 ⟨by omega, by omega⟩ ⟨by omega, by omega⟩ ⟨by omega, by omega⟩ _).mono ?_; rw [HE.out]; rintro e W2 ⟨rfl, hW2⟩; obtain ⟨hR2, hN2, hB2⟩ := nw_after hwW hR hW2; clear hW2; obtain ⟨r1, r2, r3⟩ := res_start hR2; obtain ⟨r4, r5, r6⟩ := res_row hR2; refine Hid.out ?_)
          refine hide ?_
          go_wp2_with (refine bodyPost_ret (results_net rfl _ _ w.heap.size 0 0 0 0 (.iface 75 (.int .i64 4)) rfl rfl (setRow_heap _ _ _ _ _ _ hR2)) rfl ⟨?_, ?_⟩; (· rw [HV.out]; rfl); (· exact below_setRow (HW.out.trans (hB2.mono (by omega))) (Nat.le_refl _) _))
end Go.Proofs.YtkogafponpjdnaaGreatDoor

/- addr.numbers. -/
namespace Go.Proofs.YtkogafponpjdnaaGreatDoor
open Go.RowKit

/-- The numbers, k of the address's written. -/
def numsK (ip b lo hi k : Nat) : List Nat := [if 0 < k then ipB ip 0 else 0, if 1 < k then ipB ip 1 else 0, if 2 < k then ipB ip 2 else 0, if 3 < k then ipB ip 3 else 0, b, lo, hi]
theorem numsK_set (ip b lo hi k : Nat) (hk : k < 4) : (padN (numsK ip b lo hi k)).setIfInBounds k (.int .i64 (ipB ip k : Nat)) = padN (numsK ip b lo hi (k + 1)) := by
  match k, hk with
  | 0, _ => rfl
  | 1, _ => rfl
  | 2, _ => rfl
  | 3, _ => rfl
theorem numsK_end (ip b lo hi : Nat) (hip : ip < 4294967296) : numsK ip b lo hi 4 = netNums ip b lo hi := by
  show [ipB ip 0, ipB ip 1, ipB ip 2, ipB ip 3, b, lo, hi] = _
  unfold ipB netNums
  rw [show ip / 2 ^ (24 - 8 * 0) % 256 = ip / 16777216 by omega, show ip / 2 ^ (24 - 8 * 1) % 256 = ip / 65536 % 256 by omega, show ip / 2 ^ (24 - 8 * 2) % 256 = ip / 256 % 256 by omega, show ip / 2 ^ (24 - 8 * 3) % 256 = ip % 256 by omega]

theorem SW_old (V : World) (ns : List Nat) (m g : Nat) (hg : g < V.heap.size) (o : Nat) : (SW V ns m).cell? ⟨g, o, none⟩ = V.cell? ⟨g, o, none⟩ := (SW_below V ns m).cell (p := ⟨g, o, none⟩) hg
theorem SW_drew (w : World) (ns : List Nat) (m : Nat) : (SW w ns m).drew = SW w ns (m + 1) := SW_drewN w ns m 1
attribute [local go_sem] SW_drewN SW_drew

theorem numbers_any (ip b lo hi : Nat) (hip : ip < 4294967296) (w : World) :
    Calls Tryz.prog 97 #[netV ip b lo hi] w fun e w' => e = .returned (.agg (padN (netNums ip b lo hi))) ∧ Below w.heap.size w w' := by
  have HEND := hide (numsK_end ip b lo hi hip)
  go_enter Tryz.func97, Tryz.ntmps97
  go_wp2
  obtain ⟨V, hV⟩ : ∃ V, V = w.alloc (.cells #[.int .u32 ip, .int .i64 b, .int .i64 lo, .int .i64 hi] 67) := ⟨_, rfl⟩
  have hz : w.heap.size + 1 = V.heap.size := by rw [hV]; simp
  have hBV := hide (show Below w.heap.size w V by rw [hV]; exact (Below.refl _ _).alloc (Nat.le_refl _) _)
  have hc0 : V.cell? ⟨w.heap.size, 0, none⟩ = some (.int .u32 ip) := by rw [hV]; exact World.cell?_alloc_at _ _ _ _ rfl
  have hc : ∀ ns m, (SW V ns m).cell? ⟨w.heap.size, 0, none⟩ = some (.int .u32 ip) := fun ns m => (SW_old V ns m _ (by omega) 0).trans hc0
  rw [← hV, hz]
  clear hV hc0
  go_loopw [12] (fun i w' => ∃ k m : Nat, k ≤ 4 ∧ i = .int .i64 k ∧ w' = SW V (numsK ip b lo hi k) m) (fun i _ => 4 - (intOf i).toNat)
  case atStart => exact ⟨0, 0, by omega, rfl, (World.drewN_zero _).symm⟩
  case round =>
    obtain ⟨k, m, hk, rfl, rfl⟩ := hrel
    by_cases hlt : k < 4
    · have hcell : ∀ m, (SW V (numsK ip b lo hi k) m).cell? ⟨V.heap.size + 1, k, none⟩ = some _ := fun m => SW_cell V (numsK ip b lo hi k) m k (by omega)
      have hfro := SW_frozen V (numsK ip b lo hi k)
      have hlb := ipB_lt ip k
      have hset : ∀ m, (SW V (numsK ip b lo hi k) m).setCell ⟨V.heap.size + 1, k, none⟩ (.int .i64 (ipB ip k : Nat)) = SW V (numsK ip b lo hi (k + 1)) m := fun m => SW_row V _ _ m k _ (numsK_set ip b lo hi k hlt)
      go_wp2_with (go_at_call 124; refine (ipByte_any ip k hip (by omega) _).mono ?_; rintro e w' ⟨rfl, rfl⟩)
      go_round
      case rel => exact ⟨k + 1, m, by omega, by go_num, rfl⟩
      case measure => simp [intOf]; omega
    · obtain rfl : k = 4 := by omega
      go_wp2_with (first
        | (refine wpList_load_pad rfl _ rfl V _ _ rfl ?_)
        | (refine wpList_store_pad rfl _ _ rfl V _ _ rfl rfl ?_))
      refine bodyPost_ret (results_cell_row rfl _ _ V.heap.size 159 (padN (numsK ip b lo hi 4)) (0, 0) _ rfl (setRow_heap _ _ _ _ _ _ (SW_heap0 V _ _)) Tryz.underlying159 rfl size_arr7) rfl ⟨?_, ?_⟩
      · rw [HEND.out]
      · exact hBV.out.trans ((SWr_below V _ _).mono (by omega))
end Go.Proofs.YtkogafponpjdnaaGreatDoor

/- addr.Text. -/
namespace Go.Proofs.YtkogafponpjdnaaGreatDoor
open Go.RowKit Go.Sort

/-- What Text hands back. -/
def textV (ip : Nat) (b lo hi : Int) : Value := .tuple #[.string (if faultOf ip b lo hi = 0 then ⟨(netText ip b.toNat lo.toNat hi.toNat).toArray⟩ else ⟨#[]⟩), errV (faultOf ip b lo hi)]

/-- The world behind 'l := numbers(n)'. -/
def TX (w : World) (L : Nat) (ns : List Nat) (X : World) : Prop := Below w.heap.size w X ∧ X.heap[L]? = some (.cells (padN ns) 159 (0, 0)) ∧ Tab X
theorem TX.on {w X Y : World} {L : Nat} {ns : List Nat} (h : TX w L ns X) (hb : Below X.heap.size X Y) : TX w L ns Y :=
  ⟨h.1.trans (hb.mono h.1.size), (hb.block L (Array.getElem?_eq_some_iff.1 h.2.1).1).trans h.2.1, tab_on h.2.2 hb⟩
theorem TX.drew {w X : World} {L : Nat} {ns : List Nat} (h : TX w L ns X) : TX w L ns X.drew := ⟨below_drewN' h.1 1, h.2.1, h.2.2⟩
theorem TX.cell {w X : World} {L : Nat} {ns : List Nat} (h : TX w L ns X) (k : Nat) (hk : k < 7) : X.cell? ⟨L, k, none⟩ = some (.int .i64 (ns.getD k 0)) := by
  rw [cell_of_row _ _ k _ _ _ h.2.1, padN_get ns k hk]
theorem wpList_forget {P : Program} {ops : Array Oper} {r : List Oper} {Q : Exit → Act → World → Prop} {a : Act} {W0 : World} (F : World → Prop) (h : F W0) (H : ∀ W, F W → wpList P ops Q r a W) : wpList P ops Q r a W0 := H _ h

/-- The text of the first k + 1 numbers. -/
def textK (ns : List Nat) (k : Nat) : List UInt8 := joinN (signsL.take k) ns
theorem textK_zero (ns : List Nat) (h : ns.length = 7) : textK ns 0 = Lib.decDigits (ns.getD 0 0) := by
  obtain ⟨a, b, c, d, e, f, g, rfl⟩ := len7 h
  rfl
theorem textK_succ (ns : List Nat) (h : ns.length = 7) (k : Nat) (hk : k < 6) : textK ns (k + 1) = textK ns k ++ (signsL.getD k 0 :: Lib.decDigits (ns.getD (k + 1) 0)) := by
  obtain ⟨a, b, c, d, e, f, g, rfl⟩ := len7 h
  match k, hk with
  | 0, _ => rfl
  | 1, _ => simp [textK, signsL, joinN]
  | 2, _ => simp [textK, signsL, joinN]
  | 3, _ => simp [textK, signsL, joinN]
  | 4, _ => simp [textK, signsL, joinN]
  | 5, _ => simp [textK, signsL, joinN]

theorem textK_len (ns : List Nat) (h : ns.length = 7) (hb : ∀ k, ns.getD k 0 < 100000) : ∀ k, k ≤ 6 → (textK ns k).length ≤ 6 * (k + 1)
  | 0, _ => by
    rw [textK_zero ns h, Lib.decDigits_length]
    have := nDigits_le5 _ (hb 0)
    omega
  | k + 1, hk => by
    rw [textK_succ ns h k (by omega), List.length_append, List.length_cons, Lib.decDigits_length]
    have := nDigits_le5 _ (hb (k + 1))
    have := textK_len ns h hb k (by omega)
    omega
theorem textK_all {ns : List Nat} {ip b lo hi : Nat} (h : ns = netNums ip b lo hi) : textK ns 6 = netText ip b lo hi := by rw [h]; rfl

set_option maxHeartbeats 1000000 in
theorem text_any (ip : Nat) (hip : ip < 4294967296) (b lo hi : Int) (hb : -9223372036854775808 ≤ b ∧ b ≤ 9223372036854775807) (hl : -9223372036854775808 ≤ lo ∧ lo ≤ 9223372036854775807) (hh : -9223372036854775808 ≤ hi ∧ hi ≤ 9223372036854775807) (w : World) (ht : Tab w) :
    Calls Tryz.prog 83 #[netV ip b lo hi] w fun e w' => e = .returned (textV ip b lo hi) ∧ Below w.heap.size w w' := by
  have HT := hide ht
  clear ht
  by_cases hf : faultOf ip b lo hi = 0
  · obtain ⟨⟨hb0, hb32⟩, ⟨hl0, hlh, hh6⟩, _⟩ := fault_ok hf
    obtain ⟨b, rfl⟩ : ∃ k : Nat, b = k := ⟨b.toNat, by omega⟩
    obtain ⟨lo, rfl⟩ : ∃ k : Nat, lo = k := ⟨lo.toNat, by omega⟩
    obtain ⟨hi, rfl⟩ : ∃ k : Nat, hi = k := ⟨hi.toNat, by omega⟩
    have HV := hide (show textV ip b lo hi = .tuple #[.string ⟨(netText ip b lo hi).toArray⟩, .nilIface] by unfold textV; rw [if_pos hf, hf]; rfl)
    have HE := hide (show errV (faultOf ip b lo hi) = .nilIface by rw [hf]; rfl)
    clear hf
    go_enter Tryz.func83, Tryz.ntmps83
    go_wp2_with (first
      | (go_at_call 68; refine (acheck_any ip hip b lo hi hb hl hh _).mono ?_; rw [HE.out]; rintro e W ⟨rfl, hW⟩; have hW2 : Below (w.heap.size + 1) (w.alloc (.cells #[.int .u32 ip, .int .i64 b, .int .i64 lo, .int .i64 hi] 67)) W := hW.mono (by simp); obtain ⟨h0, h1, h2, h3⟩ := box_cells hW2; have HW := hide (show Below w.heap.size w W from ((Below.refl w.heap.size w).alloc (Nat.le_refl _) _).trans (hW.mono (by simp))); clear hW hW2)
      | (go_at_call 97; refine (numbers_any ip b lo hi hip _).mono ?_; rintro e W2 ⟨rfl, hW2⟩; have HW2 := hide (HW.out.trans (hW2.mono HW.out.size)); clear hW2 HW h0 h1 h2 h3; refine Hid.out ?_))
    refine hide ?_
    obtain ⟨ns, hns⟩ : ∃ ns, ns = netNums ip b lo hi := ⟨_, rfl⟩
    rw [← hns]
    have HNS := hide hns
    clear hns
    go_wp2_with (refine wpList_store_row rfl 159 _ _ rfl W2.heap.size (padN ns) rfl rfl 159 (padN []) (heap_alloc_new _ _) size_arr7 rfl (padN_one ns) ?_; rw [World.setRow_alloc_new]; refine Hid.out ?_)
    refine hide ?_
    obtain ⟨L, hL⟩ : ∃ L, L = W2.heap.size := ⟨_, rfl⟩
    have hTX : TX w L ns (W2.alloc (.cells (padN ns) 159)) := ⟨HW2.out.alloc (HW2.out.size) _, by rw [hL]; exact heap_alloc_new _ _, tab_on HT.out (HW2.out.alloc (HW2.out.size) _)⟩
    rw [← hL]
    clear hL
    refine wpList_forget (TX w L ns) hTX ?_
    clear hTX
    intro X hX
    have hlen : ns.length = 7 := by rw [HNS.out]; rfl
    have hbound : ∀ k, ns.getD k 0 < 100000 := fun k => getD_lt (fun n hn => by
      rw [HNS.out] at hn
      simp only [netNums, List.mem_cons, List.not_mem_nil, or_false] at hn
      omega) k
    obtain ⟨n0, h0⟩ : ∃ n, n = ns.getD 0 0 := ⟨_, rfl⟩
    have l0 := hbound 0
    have c0 := hX.cell 0 (by omega)
    rw [← h0] at l0 c0
    have H0 := hide h0
    clear h0
    have HX := hide hX
    clear hX
    go_wp2_with (go_at_call 63; refine (itoa_any n0 (by omega) _ HX.out.2.2).mono ?_; rintro e X1 ⟨rfl, hX1⟩; have HX1 := hide (HX.out.on hX1); clear hX1 HX c0; refine Hid.out ?_)
    refine hide ?_
    rw [show Lib.decDigits n0 = textK ns 0 by rw [textK_zero ns hlen, H0.out]]
    go_wp2
    go_loopw [18, 6] (fun i x w' => ∃ k : Nat, k ≤ 6 ∧ i = .int .i64 k ∧ (∃ t : ByteArray, x = .string t ∧ t.size ≤ 100 ∧ Hid (t = ⟨(textK ns k).toArray⟩)) ∧ Hid (TX w L ns w')) (fun i _ _ => 6 - (intOf i).toNat)
    case atStart => exact ⟨0, by omega, rfl, ⟨_, rfl, by have := textK_len ns hlen hbound 0 (by omega); simp [ByteArray.size]; omega, hide rfl⟩, HX1⟩
    case round =>
      obtain ⟨k, hk, rfl, ⟨tk, rfl, ltk, HTK⟩, HX⟩ := hrel
      by_cases hlt : k < 6
      · obtain ⟨nk, hnk⟩ : ∃ n, n = ns.getD (k + 1) 0 := ⟨_, rfl⟩
        have lk := hbound (k + 1)
        have ck := HX.out.cell (k + 1) (by omega)
        rw [← hnk] at lk ck
        have HK := hide hnk
        have HS := hide (textK_succ ns hlen k hlt)
        clear hnk
        have i1 : (0 : Int) ≤ k := by omega
        have i2 : (k : Int) ≤ k + 1 := by omega
        have i3 : (k : Int) + 1 ≤ 6 := by omega
        have i4 : (0 : Int) ≤ (k : Int) + 1 := by omega
        have i5 : (k : Int) + 1 < 7 := by omega
        obtain ⟨dk, hdk⟩ : ∃ d : ByteArray, d = ⟨(Lib.decDigits nk).toArray⟩ := ⟨_, rfl⟩
        have ldk : dk.size ≤ 5 := by have := nDigits_le5 nk lk; rw [← Lib.decDigits_length] at this; rw [hdk]; simpa [ByteArray.size] using this
        have HDK := hide hdk
        clear hdk
        have HI := fun X hT => (itoa_any nk (by omega) X hT).mono fun e w' h => (by rw [← HDK.out] at h; exact h : e = .returned (.string dk) ∧ Below X.heap.size X w')
        obtain ⟨sx, hsx⟩ : ∃ x : ByteArray, x = ⟨#[signsL.getD k 0]⟩ := ⟨_, rfl⟩
        have lsx : sx.size = 1 := by rw [hsx]; rfl
        have hsl : ∀ W, (Instr.slice 9 (.string ⟨#[46, 46, 46, 47, 58, 45]⟩) (some (.int .i64 (k : Int))) (some (.int .i64 ((k : Int) + 1))) none).run Tryz.prog W = .ok (.string sx) W := fun W => by
          rw [run_slice_string W 9 _ .i64 .i64 k (k + 1) Tryz.underlying9 i1 i2 (by exact i3), show ((k : Int) + 1).toNat = k + 1 by omega, Int.toNat_natCast, signs_extract k hlt, hsx]
        have HSX := hide hsx
        clear hsx
        have hw1 : IntKind.i64.wrap ((k : Int) + 1) = (k : Int) + 1 := by rw [IntKind.wrap_i64]; omega
        have cI : ∀ d os, Calls Tryz.prog 63 #[.int .i64 nk] (grow (redrawn wr d) os) fun e w'' => e = .returned (.string dk) ∧ ∃ p : Regrown, w'' = grow (redrawn wr p.d) p.os := fun d os => Calls.regrown_of (HI _ (HX.out.on (below_regrown _ _ _)).2.2)
        have ckr := cell_regrown ck
        have z1 : ¬ 9223372036854775807 < 1 + dk.size := by omega
        have z2 : ¬ 9223372036854775807 < tk.size + (1 + dk.size) := by omega
        go_wp2
        refine wp_region_quiet_below (by kernel_rfl) (by kernel_rfl) ?_
        repeat (quiet_step (exact cI _ _))
        refine wpQuiet_nil ?_
        intro _ hw'
        obtain ⟨⟨dq, osq⟩, hw''⟩ := hw'
        subst hw''
        go_wp2
        go_round
        case rel =>
          refine ⟨k + 1, by omega, by go_num, ⟨_, rfl, ?_, ?_⟩, hide (HX.out.on (below_regrown _ _ _))⟩
          · have h1 := textK_len ns hlen hbound (k + 1) (by omega)
            rw [HS.out, List.length_append, List.length_cons] at h1
            have h2 : tk.size = (textK ns k).length := by rw [HTK.out]; simp [ByteArray.size]
            have h3 : dk.size = (Lib.decDigits nk).length := by rw [HDK.out]; simp [ByteArray.size]
            rw [← HK.out] at h1
            rw [ByteArray.size_append, ByteArray.size_append]
            omega
          · refine hide ?_
            rw [HS.out, HTK.out, HSX.out, HDK.out, HK.out]
            apply ByteArray.ext
            simp [ByteArray.data_append]
        case measure => simp [intOf]; omega
      · obtain rfl : k = 6 := by omega
        go_wp2
        go_ret2
        exact ⟨by rw [HV.out, ← textK_all HNS.out, ← HTK.out]; rfl, HX.out.1⟩
  · have HV := hide (show textV ip b lo hi = .tuple #[.string ⟨#[]⟩, .iface 75 (.int .i64 (faultOf ip b lo hi : Nat))] by unfold textV errV; rw [if_neg hf, if_neg hf])
    have HE := hide (show errV (faultOf ip b lo hi) = .iface 75 (.int .i64 (faultOf ip b lo hi : Nat)) by unfold errV; rw [if_neg hf])
    clear hf
    go_enter Tryz.func83, Tryz.ntmps83
    go_wp2_with (go_at_call 68; refine (acheck_any ip hip b lo hi hb hl hh _).mono ?_; rw [HE.out]; rintro e W ⟨rfl, hW⟩)
    go_ret2
    exact ⟨by rw [HV.out]; rfl, ((Below.refl w.heap.size w).alloc (Nat.le_refl _) _).trans (hW.mono (by simp))⟩
end Go.Proofs.YtkogafponpjdnaaGreatDoor

/- policy.Text: a cond. -/
namespace Go.Proofs.YtkogafponpjdnaaGreatDoor
open Go.RowKit Go.Sort

theorem sign_len (j : Nat) (h : j ≤ 8) : (signW.getD j []).length ≤ 2 := by
  rcases nine h with rfl | rfl | rfl | rfl | rfl | rfl | rfl | rfl | rfl <;> decide
theorem bs32 : (⟨#[32]⟩ : ByteArray) = bs [32] := rfl
theorem netText_len {ip b lo hi : Nat} (hf : faultOf ip b lo hi = 0) (hip : ip < 4294967296) : (netText ip b lo hi).length ≤ 100 := by
  have hfo := fault_ok hf
  have hb : ∀ k, (netNums ip b lo hi).getD k 0 < 100000 := fun k => getD_lt (fun n hn => by
    simp only [netNums, List.mem_cons, List.not_mem_nil, or_false] at hn
    omega) k
  have := textK_len (netNums ip b lo hi) rfl hb 6 (by omega)
  rw [textK_all rfl] at this
  omega
theorem bs34 : (⟨#[34]⟩ : ByteArray) = bs [34] := rfl
set_option maxHeartbeats 4000000 in
theorem condText_num (a : Nat) (ha : a ≤ 3) (j v : Nat) (hj : j ≤ 5) (hv : v < 18446744073709551616) (w : World) (hE : EV w) : Calls Tryz.prog 64 #[.agg #[.int .i64 a, .int .i64 ((j : Int) + 1), .int .u64 v, .int .u64 0, .string ByteArray.empty, .int .u32 0, .int .i64 0, .int .i64 0, .int .i64 0]] w fun e w' => e = .returned (.string (bs (Lib.decDigits a ++ 32 :: (signW.getD j [] ++ 32 :: Lib.decDigits v)))) ∧ Below w.heap.size w w' := by
  have HI := fun X hX => itoa_any a (by omega) X hX
  have hl : (Lib.decDigits a).length ≤ 20 := nDigits_le20 a (by omega)
  have hsl : (signW.getD j []).length ≤ 2 := sign_len j (by omega)
  obtain ⟨d, hd⟩ : ∃ d : ByteArray, d = ⟨(Lib.decDigits a).toArray⟩ := ⟨_, rfl⟩
  have hds : d.size ≤ 20 := by rw [hd]; simpa [ByteArray.size] using hl
  rw [← hd] at HI
  obtain ⟨s, hs⟩ : ∃ d : ByteArray, d = bs (signW.getD j []) := ⟨_, rfl⟩
  have hss : s.size ≤ 2 := by rw [hs, bs_size]; exact hsl
  have hsg := fun X (hX : EV X) => hX.sign j (by omega)
  rw [← hs] at hsg
  have Hy := fun X hX => numText_any v hv X hX
  have hly : (Lib.decDigits v).length ≤ 20 := nDigits_le20 v hv
  obtain ⟨y, hy⟩ : ∃ d : ByteArray, d = ⟨(Lib.decDigits v).toArray⟩ := ⟨_, rfl⟩
  have hsy : y.size ≤ 20 := by rw [hy]; simpa [ByteArray.size] using hly
  rw [← hy] at Hy
  have HV := hide (show bs (Lib.decDigits a ++ 32 :: (signW.getD j [] ++ 32 :: Lib.decDigits v)) = d ++ ⟨#[32]⟩ ++ s ++ ⟨#[32]⟩ ++ y by
    rw [hd, hs, hy, show (⟨(Lib.decDigits a).toArray⟩ : ByteArray) = bs (Lib.decDigits a) from rfl, show (⟨(Lib.decDigits v).toArray⟩ : ByteArray) = bs (Lib.decDigits v) from rfl, bs32, bs_append, bs_append, bs_append, bs_append]
    simp)
  clear hd hs hy hly
  obtain ⟨R, hR⟩ : ∃ R : ByteArray, R = bs (Lib.decDigits a ++ 32 :: (signW.getD j [] ++ 32 :: Lib.decDigits v)) := ⟨_, rfl⟩
  rw [← hR] at HV ⊢
  clear hR
  have HE := hide hE
  clear hE hl hsl
  have hw1 : IntKind.i64.wrap ((j : Int) + 1 - 1) = j := by rw [IntKind.wrap_i64]; omega
  have hw2 : (j : Int) + 1 - 1 = j := by omega
  have i1 : (0 : Int) ≤ j := by omega
  have i2 : (j : Int) < 9 := by omega
  have n7 : ¬ (j : Int) + 1 = 7 := by omega
  have n8 : ¬ (j : Int) + 1 = 8 := by omega
  have n9 : ¬ (j : Int) + 1 = 9 := by omega
  have z1 : ¬ 9223372036854775807 < d.size + 1 := by omega
  have z2 : ¬ 9223372036854775807 < d.size + 1 + s.size := by omega
  have z3 : ¬ 9223372036854775807 < d.size + 1 + s.size + 1 := by omega
  have z4 : ¬ 9223372036854775807 < d.size + 1 + s.size + 1 + y.size := by omega
  go_enter Tryz.func64, Tryz.ntmps64
  go_wp2
  obtain ⟨V, hV, hB, hsz, hx⟩ := one_box w #[.int .i64 a, .int .i64 ((j : Int) + 1), .int .u64 v, .int .u64 0, .string ByteArray.empty, .int .u32 0, .int .i64 0, .int .i64 0, .int .i64 0] 69
  rw [← hV]
  clear hV
  have HB := hide hB
  have HEV := hide (HE.out.on hB)
  clear hB
  have g0 := cell_regrown (hx 0)
  have g1 := cell_regrown (hx 1)
  have g2 := cell_regrown (hx 2)
  have g3 := cell_regrown (hx 3)
  have g4 := cell_regrown (hx 4)
  have g5 := cell_regrown (hx 5)
  have g6 := cell_regrown (hx 6)
  have g7 := cell_regrown (hx 7)
  have g8 := cell_regrown (hx 8)
  have gs := cell_regrown (hsg V HEV.out)
  have gs0 := cell_regrown (HEV.out.sign 0 (by omega))
  have cI : ∀ d' os, Calls Tryz.prog 63 #[.int .i64 a] (grow (redrawn V d') os) fun e w'' => e = .returned (.string d) ∧ ∃ p : Regrown, w'' = grow (redrawn V p.d) p.os := fun d' os => Calls.regrown_of (HI _ (HEV.out.on (below_regrown _ _ _)).tab)
  clear hx hsg HI
  refine wp_region_quiet_below (by kernel_rfl) (by kernel_rfl) ?_
  repeat (go_big_quiet_step (first | (go_at_call 63; exact cI _ _)))
  refine wpQuiet_nil ?_
  intro _ hw'
  obtain ⟨⟨dq, osq⟩, hw''⟩ := hw'
  subst hw''
  go_wp2_with (go_at_call 82; refine (Hy _ (HEV.out.on (below_regrown _ _ _)).tab).mono ?_; rintro e w' ⟨rfl, hb⟩)
  go_ret
  exact ⟨by rw [HV.out]; rfl, below_next (HB.out.trans ((below_regrown V dq osq).mono HB.out.size)) hb⟩
set_option maxHeartbeats 4000000 in
theorem condText_mask (a : Nat) (ha : a ≤ 3) (v m : Nat) (hv : v < 18446744073709551616) (hm : m < 18446744073709551616) (w : World) (hE : EV w) : Calls Tryz.prog 64 #[.agg #[.int .i64 a, .int .i64 7, .int .u64 v, .int .u64 m, .string ByteArray.empty, .int .u32 0, .int .i64 0, .int .i64 0, .int .i64 0]] w fun e w' => e = .returned (.string (bs (Lib.decDigits a ++ 32 :: (signW.getD 6 [] ++ 32 :: (Lib.decDigits m ++ 32 :: ([61, 61] ++ 32 :: Lib.decDigits v)))))) ∧ Below w.heap.size w w' := by
  have HI := fun X hX => itoa_any a (by omega) X hX
  have hl : (Lib.decDigits a).length ≤ 20 := nDigits_le20 a (by omega)
  have hsl : (signW.getD 6 []).length ≤ 2 := sign_len 6 (by omega)
  obtain ⟨d, hd⟩ : ∃ d : ByteArray, d = ⟨(Lib.decDigits a).toArray⟩ := ⟨_, rfl⟩
  have hds : d.size ≤ 20 := by rw [hd]; simpa [ByteArray.size] using hl
  rw [← hd] at HI
  obtain ⟨s, hs⟩ : ∃ d : ByteArray, d = bs (signW.getD 6 []) := ⟨_, rfl⟩
  have hss : s.size ≤ 2 := by rw [hs, bs_size]; exact hsl
  have hsg := fun X (hX : EV X) => hX.sign 6 (by omega)
  rw [← hs] at hsg
  have Hy := fun X hX => numText_any v hv X hX
  have hly : (Lib.decDigits v).length ≤ 20 := nDigits_le20 v hv
  obtain ⟨y, hy⟩ : ∃ d : ByteArray, d = ⟨(Lib.decDigits v).toArray⟩ := ⟨_, rfl⟩
  have hsy : y.size ≤ 20 := by rw [hy]; simpa [ByteArray.size] using hly
  rw [← hy] at Hy
  have Hx := fun X hX => numText_any m hm X hX
  have hlx : (Lib.decDigits m).length ≤ 20 := nDigits_le20 m hm
  obtain ⟨x, hx⟩ : ∃ d : ByteArray, d = ⟨(Lib.decDigits m).toArray⟩ := ⟨_, rfl⟩
  have hsx : x.size ≤ 20 := by rw [hx]; simpa [ByteArray.size] using hlx
  rw [← hx] at Hx
  have HV := hide (show bs (Lib.decDigits a ++ 32 :: (signW.getD 6 [] ++ 32 :: (Lib.decDigits m ++ 32 :: ([61, 61] ++ 32 :: Lib.decDigits v)))) = d ++ ⟨#[32]⟩ ++ s ++ ⟨#[32]⟩ ++ x ++ ⟨#[32]⟩ ++ bs (signW.getD 0 []) ++ ⟨#[32]⟩ ++ y by
    rw [hd, hs, hy, hx, show (⟨(Lib.decDigits a).toArray⟩ : ByteArray) = bs (Lib.decDigits a) from rfl, show (⟨(Lib.decDigits v).toArray⟩ : ByteArray) = bs (Lib.decDigits v) from rfl, show (⟨(Lib.decDigits m).toArray⟩ : ByteArray) = bs (Lib.decDigits m) from rfl, bs32, bs_append, bs_append, bs_append, bs_append, bs_append, bs_append, bs_append, bs_append]
    simp [signW])
  clear hd hs hy hx hly hlx
  obtain ⟨R, hR⟩ : ∃ R : ByteArray, R = bs (Lib.decDigits a ++ 32 :: (signW.getD 6 [] ++ 32 :: (Lib.decDigits m ++ 32 :: ([61, 61] ++ 32 :: Lib.decDigits v)))) := ⟨_, rfl⟩
  rw [← hR] at HV ⊢
  clear hR
  have HE := hide hE
  clear hE hl hsl
  have z1 : ¬ 9223372036854775807 < d.size + 1 := by omega
  have z2 : ¬ 9223372036854775807 < d.size + 1 + s.size := by omega
  have z3 : ¬ 9223372036854775807 < d.size + 1 + s.size + 1 := by omega
  go_enter Tryz.func64, Tryz.ntmps64
  go_wp2
  obtain ⟨V, hV, hB, hsz, hx⟩ := one_box w #[.int .i64 a, .int .i64 7, .int .u64 v, .int .u64 m, .string ByteArray.empty, .int .u32 0, .int .i64 0, .int .i64 0, .int .i64 0] 69
  rw [← hV]
  clear hV
  have HB := hide hB
  have HEV := hide (HE.out.on hB)
  clear hB
  have g0 := cell_regrown (hx 0)
  have g1 := cell_regrown (hx 1)
  have g2 := cell_regrown (hx 2)
  have g3 := cell_regrown (hx 3)
  have g4 := cell_regrown (hx 4)
  have g5 := cell_regrown (hx 5)
  have g6 := cell_regrown (hx 6)
  have g7 := cell_regrown (hx 7)
  have g8 := cell_regrown (hx 8)
  have gs := cell_regrown (hsg V HEV.out)
  have gs0 := cell_regrown (HEV.out.sign 0 (by omega))
  have cI : ∀ d' os, Calls Tryz.prog 63 #[.int .i64 a] (grow (redrawn V d') os) fun e w'' => e = .returned (.string d) ∧ ∃ p : Regrown, w'' = grow (redrawn V p.d) p.os := fun d' os => Calls.regrown_of (HI _ (HEV.out.on (below_regrown _ _ _)).tab)
  clear hx hsg HI
  refine wp_region_quiet_below (by kernel_rfl) (by kernel_rfl) ?_
  repeat (go_big_quiet_step (first | (go_at_call 63; exact cI _ _)))
  refine wpQuiet_nil ?_
  intro _ hw'
  obtain ⟨⟨dq, osq⟩, hw''⟩ := hw'
  subst hw''
  have cY : ∀ d' os, Calls Tryz.prog 82 #[.int .u64 v] (grow (redrawn (grow (redrawn V dq) osq) d') os) fun e w'' => e = .returned (.string y) ∧ ∃ p : Regrown, w'' = grow (redrawn (grow (redrawn V dq) osq) p.d) p.os := fun d' os => Calls.regrown_of (Hy _ ((HEV.out.on (below_regrown _ _ _)).on (below_regrown _ _ _)).tab)
  have cX : ∀ d' os, Calls Tryz.prog 82 #[.int .u64 m] (grow (redrawn (grow (redrawn V dq) osq) d') os) fun e w'' => e = .returned (.string x) ∧ ∃ p : Regrown, w'' = grow (redrawn (grow (redrawn V dq) osq) p.d) p.os := fun d' os => Calls.regrown_of (Hx _ ((HEV.out.on (below_regrown _ _ _)).on (below_regrown _ _ _)).tab)
  have q2 := cell_regrown (g2 dq osq)
  have q3 := cell_regrown (g3 dq osq)
  have q0 := cell_regrown (gs0 dq osq)
  obtain ⟨ee, hee⟩ : ∃ e : ByteArray, e = bs (signW.getD 0 []) := ⟨_, rfl⟩
  rw [← hee] at q0 HV
  have hes : ee.size = 2 := by rw [hee]; rfl
  clear hee
  have z4 : ¬ 9223372036854775807 < d.size + 1 + s.size + 1 + x.size := by omega
  have z5 : ¬ 9223372036854775807 < d.size + 1 + s.size + 1 + x.size + 1 := by omega
  have z6 : ¬ 9223372036854775807 < d.size + 1 + s.size + 1 + x.size + 1 + ee.size := by omega
  have z7 : ¬ 9223372036854775807 < d.size + 1 + s.size + 1 + x.size + 1 + ee.size + 1 := by omega
  have z8 : ¬ 9223372036854775807 < d.size + 1 + s.size + 1 + x.size + 1 + ee.size + 1 + y.size := by omega
  go_wp2
  refine wp_region_quiet_below (by kernel_rfl) (by kernel_rfl) ?_
  repeat (go_big_quiet_step (first | (go_at_call_of 82 (Value.int IntKind.u64 (v : Int)); exact cY _ _) | (go_at_call_of 82 (Value.int IntKind.u64 (m : Int)); exact cX _ _)))
  refine wpQuiet_nil ?_
  intro _ hw'
  obtain ⟨⟨dq2, osq2⟩, hw''⟩ := hw'
  subst hw''
  go_wp2
  go_ret
  exact ⟨by rw [HV.out]; rfl, below_next (HB.out.trans ((below_regrown V dq osq).mono HB.out.size)) (below_regrown _ _ _)⟩
set_option maxHeartbeats 4000000 in
theorem condText_like (a : Nat) (ha : a ≤ 3) (g : ByteArray) (hg : g.size ≤ 24) (w : World) (hE : EV w) : Calls Tryz.prog 64 #[.agg #[.int .i64 a, .int .i64 8, .int .u64 0, .int .u64 0, .string g, .int .u32 0, .int .i64 0, .int .i64 0, .int .i64 0]] w fun e w' => e = .returned (.string (bs (Lib.decDigits a ++ 32 :: (signW.getD 7 [] ++ 32 :: (34 :: (g.data.toList ++ [34])))))) ∧ Below w.heap.size w w' := by
  have HI := fun X hX => itoa_any a (by omega) X hX
  have hl : (Lib.decDigits a).length ≤ 20 := nDigits_le20 a (by omega)
  have hsl : (signW.getD 7 []).length ≤ 2 := sign_len 7 (by omega)
  obtain ⟨d, hd⟩ : ∃ d : ByteArray, d = ⟨(Lib.decDigits a).toArray⟩ := ⟨_, rfl⟩
  have hds : d.size ≤ 20 := by rw [hd]; simpa [ByteArray.size] using hl
  rw [← hd] at HI
  obtain ⟨s, hs⟩ : ∃ d : ByteArray, d = bs (signW.getD 7 []) := ⟨_, rfl⟩
  have hss : s.size ≤ 2 := by rw [hs, bs_size]; exact hsl
  have hsg := fun X (hX : EV X) => hX.sign 7 (by omega)
  rw [← hs] at hsg
  have HV := hide (show bs (Lib.decDigits a ++ 32 :: (signW.getD 7 [] ++ 32 :: (34 :: (g.data.toList ++ [34])))) = d ++ ⟨#[32]⟩ ++ s ++ ⟨#[32]⟩ ++ ⟨#[34]⟩ ++ g ++ ⟨#[34]⟩ by
    rw [hd, hs, show (⟨(Lib.decDigits a).toArray⟩ : ByteArray) = bs (Lib.decDigits a) from rfl, bs32, bs34, bs_append, bs_append, bs_append, bs_append]
    conv => rhs; rw [← bs_of g, bs_append, bs_append]
    simp)
  clear hd hs
  obtain ⟨R, hR⟩ : ∃ R : ByteArray, R = bs (Lib.decDigits a ++ 32 :: (signW.getD 7 [] ++ 32 :: (34 :: (g.data.toList ++ [34])))) := ⟨_, rfl⟩
  rw [← hR] at HV ⊢
  clear hR
  have HE := hide hE
  clear hE hl hsl
  have z1 : ¬ 9223372036854775807 < d.size + 1 := by omega
  have z2 : ¬ 9223372036854775807 < d.size + 1 + s.size := by omega
  have z3 : ¬ 9223372036854775807 < d.size + 1 + s.size + 1 := by omega
  have z4 : ¬ 9223372036854775807 < d.size + 1 + s.size + 1 + 1 := by omega
  have z5 : ¬ 9223372036854775807 < d.size + 1 + s.size + 1 + 1 + g.size := by omega
  have z6 : ¬ 9223372036854775807 < d.size + 1 + s.size + 1 + 1 + g.size + 1 := by omega
  go_enter Tryz.func64, Tryz.ntmps64
  go_wp2
  obtain ⟨V, hV, hB, hsz, hx⟩ := one_box w #[.int .i64 a, .int .i64 8, .int .u64 0, .int .u64 0, .string g, .int .u32 0, .int .i64 0, .int .i64 0, .int .i64 0] 69
  rw [← hV]
  clear hV
  have HB := hide hB
  have HEV := hide (HE.out.on hB)
  clear hB
  have g0 := cell_regrown (hx 0)
  have g1 := cell_regrown (hx 1)
  have g2 := cell_regrown (hx 2)
  have g3 := cell_regrown (hx 3)
  have g4 := cell_regrown (hx 4)
  have g5 := cell_regrown (hx 5)
  have g6 := cell_regrown (hx 6)
  have g7 := cell_regrown (hx 7)
  have g8 := cell_regrown (hx 8)
  have gs := cell_regrown (hsg V HEV.out)
  have gs0 := cell_regrown (HEV.out.sign 0 (by omega))
  have cI : ∀ d' os, Calls Tryz.prog 63 #[.int .i64 a] (grow (redrawn V d') os) fun e w'' => e = .returned (.string d) ∧ ∃ p : Regrown, w'' = grow (redrawn V p.d) p.os := fun d' os => Calls.regrown_of (HI _ (HEV.out.on (below_regrown _ _ _)).tab)
  clear hx hsg HI
  refine wp_region_quiet_below (by kernel_rfl) (by kernel_rfl) ?_
  repeat (go_big_quiet_step (first | (go_at_call 63; exact cI _ _)))
  refine wpQuiet_nil ?_
  intro _ hw'
  obtain ⟨⟨dq, osq⟩, hw''⟩ := hw'
  subst hw''
  have q4 := g4 dq osq
  go_wp2
  go_ret
  exact ⟨by rw [HV.out]; rfl, HB.out.trans ((below_regrown V dq osq).mono HB.out.size)⟩
set_option maxHeartbeats 4000000 in
theorem condText_net (a : Nat) (ha : a ≤ 3) (ip b lo hi : Nat) (hip : ip < 4294967296) (hf : faultOf ip b lo hi = 0) (w : World) (hE : EV w) : Calls Tryz.prog 64 #[.agg #[.int .i64 a, .int .i64 9, .int .u64 0, .int .u64 0, .string ByteArray.empty, .int .u32 ip, .int .i64 b, .int .i64 lo, .int .i64 hi]] w fun e w' => e = .returned (.string (bs (Lib.decDigits a ++ 32 :: (signW.getD 8 [] ++ 32 :: netText ip b lo hi)))) ∧ Below w.heap.size w w' := by
  have HI := fun X hX => itoa_any a (by omega) X hX
  have hl : (Lib.decDigits a).length ≤ 20 := nDigits_le20 a (by omega)
  have hsl : (signW.getD 8 []).length ≤ 2 := sign_len 8 (by omega)
  obtain ⟨d, hd⟩ : ∃ d : ByteArray, d = ⟨(Lib.decDigits a).toArray⟩ := ⟨_, rfl⟩
  have hds : d.size ≤ 20 := by rw [hd]; simpa [ByteArray.size] using hl
  rw [← hd] at HI
  obtain ⟨s, hs⟩ : ∃ d : ByteArray, d = bs (signW.getD 8 []) := ⟨_, rfl⟩
  have hss : s.size ≤ 2 := by rw [hs, bs_size]; exact hsl
  have hsg := fun X (hX : EV X) => hX.sign 8 (by omega)
  rw [← hs] at hsg
  have hfo := fault_ok hf
  have HT := fun X hX => text_any ip hip b lo hi (by omega) (by omega) (by omega) X hX
  rw [show textV ip b lo hi = .tuple #[.string (bs (netText ip b lo hi)), .nilIface] by unfold textV; rw [if_pos hf, hf]; rfl] at HT
  have hnl := netText_len hf hip
  obtain ⟨y, hy⟩ : ∃ y, y = bs (netText ip b lo hi) := ⟨_, rfl⟩
  have hys : y.size ≤ 100 := by rw [hy, bs_size]; exact hnl
  rw [← hy] at HT
  have HV := hide (show bs (Lib.decDigits a ++ 32 :: (signW.getD 8 [] ++ 32 :: netText ip b lo hi)) = d ++ ⟨#[32]⟩ ++ s ++ ⟨#[32]⟩ ++ y by
    rw [hd, hs, hy, show (⟨(Lib.decDigits a).toArray⟩ : ByteArray) = bs (Lib.decDigits a) from rfl, bs32, bs_append, bs_append, bs_append, bs_append]
    simp)
  clear hd hs hy hnl hf hfo
  obtain ⟨R, hR⟩ : ∃ R : ByteArray, R = bs (Lib.decDigits a ++ 32 :: (signW.getD 8 [] ++ 32 :: netText ip b lo hi)) := ⟨_, rfl⟩
  rw [← hR] at HV ⊢
  clear hR
  have HE := hide hE
  clear hE hl hsl
  have z1 : ¬ 9223372036854775807 < d.size + 1 := by omega
  have z2 : ¬ 9223372036854775807 < d.size + 1 + s.size := by omega
  have z3 : ¬ 9223372036854775807 < d.size + 1 + s.size + 1 := by omega
  have z4 : ¬ 9223372036854775807 < d.size + 1 + s.size + 1 + y.size := by omega
  go_enter Tryz.func64, Tryz.ntmps64
  go_wp2
  obtain ⟨V, hV, hB, hsz, hx⟩ := one_box w #[.int .i64 a, .int .i64 9, .int .u64 0, .int .u64 0, .string ByteArray.empty, .int .u32 ip, .int .i64 b, .int .i64 lo, .int .i64 hi] 69
  rw [← hV]
  clear hV
  have HB := hide hB
  have HEV := hide (HE.out.on hB)
  clear hB
  have g0 := cell_regrown (hx 0)
  have g1 := cell_regrown (hx 1)
  have g2 := cell_regrown (hx 2)
  have g3 := cell_regrown (hx 3)
  have g4 := cell_regrown (hx 4)
  have g5 := cell_regrown (hx 5)
  have g6 := cell_regrown (hx 6)
  have g7 := cell_regrown (hx 7)
  have g8 := cell_regrown (hx 8)
  have gs := cell_regrown (hsg V HEV.out)
  have gs0 := cell_regrown (HEV.out.sign 0 (by omega))
  have cI : ∀ d' os, Calls Tryz.prog 63 #[.int .i64 a] (grow (redrawn V d') os) fun e w'' => e = .returned (.string d) ∧ ∃ p : Regrown, w'' = grow (redrawn V p.d) p.os := fun d' os => Calls.regrown_of (HI _ (HEV.out.on (below_regrown _ _ _)).tab)
  clear hx hsg HI
  refine wp_region_quiet_below (by kernel_rfl) (by kernel_rfl) ?_
  repeat (go_big_quiet_step (first | (go_at_call 63; exact cI _ _)))
  refine wpQuiet_nil ?_
  intro _ hw'
  obtain ⟨⟨dq, osq⟩, hw''⟩ := hw'
  subst hw''
  go_wp2_with (go_at_call 83; refine (HT _ (HEV.out.on (below_regrown _ _ _)).tab).mono ?_; rintro e w' ⟨rfl, hb⟩)
  go_ret
  exact ⟨by rw [HV.out]; rfl, below_next (HB.out.trans ((below_regrown V dq osq).mono HB.out.size)) hb⟩
theorem condText_any {c : CD} (h : Shape c) (w : World) (hE : EV w) : Calls Tryz.prog 64 #[condV c] w fun e w' => e = .returned (.string (bs (joinC 32 (condW c)))) ∧ Below w.heap.size w w' := by
  cases h with
  | num a k v ha h1 h6 hv =>
    obtain ⟨j, rfl⟩ : ∃ j, k = j + 1 := ⟨k - 1, by omega⟩
    have e : joinC 32 (condW ⟨a, (j + 1 : Nat), v, 0, ByteArray.empty, noNet⟩) = Lib.decDigits a ++ 32 :: (signW.getD j [] ++ 32 :: Lib.decDigits v) := by
      rcases six h1 h6 with h | h | h | h | h | h <;> (obtain rfl : j = _ := Nat.succ.inj h; simp [condW, signOf, signW, joinC])
    rw [e]
    exact condText_num a ha j v (by omega) hv w hE
  | mask a v m ha hv hm => exact condText_mask a ha v m hv hm w hE
  | like a g ha hg => exact condText_like a ha g (glob_print hg).2 w hE
  | net a ip b lo hi ha hip hf => exact condText_net a ha ip b lo hi hip hf w hE
end Go.Proofs.YtkogafponpjdnaaGreatDoor

/- policy.Text: rules, and a policy. -/
namespace Go.Proofs.YtkogafponpjdnaaGreatDoor
open Go.RowKit Go.Sort

/-- The text of the first i conds. -/
def condsT (cs : List CD) : W8 := match cs with
  | [] => []
  | _ => 32 :: joinC 32 (condsW true cs)
theorem condsW_app : ∀ (cs : List CD) (f : Bool) (c : CD), condsW f (cs ++ [c]) = condsW f cs ++ (if f && cs.isEmpty then wIf else wAnd) :: condW c
  | [], f, c => by cases f <;> simp [condsW]
  | x :: r, f, c => by
    rw [List.cons_append, condsW, condsW, condsW_app r false c]
    simp
theorem condsW_ne {cs : List CD} (f : Bool) (h : cs ≠ []) : condsW f cs ≠ [] := by
  cases cs with
  | nil => exact absurd rfl h
  | cons c r => simp [condsW]
theorem condsT_snoc (cs : List CD) (c : CD) : condsT (cs ++ [c]) = condsT cs ++ ((if cs.isEmpty then [32, 105, 102, 32] else [32, 97, 110, 100, 32]) ++ joinC 32 (condW c)) := by
  cases cs with
  | nil =>
    simp only [List.nil_append, condsT, condsW, List.append_nil]
    rw [join_cons 32 _ _ (condW_ne c)]
    rfl
  | cons x r =>
    have e : condsT (x :: r ++ [c]) = 32 :: joinC 32 (condsW true (x :: r ++ [c])) := rfl
    rw [e, condsW_app, join_app 32 _ (by simp) _ (condsW_ne true (by simp)), join_cons 32 _ _ (condW_ne c)]
    simp [condsT, wAnd]
theorem ruleT (r : RL) : joinC 32 (ruleW r) = joinC 32 (actW r.act) ++ 32 :: (nameOf r.nr ++ condsT r.conds) := by
  unfold ruleW
  rw [join_app 32 _ (by simp) _ (actW_ne _)]
  cases h : r.conds with
  | nil => simp [condsW, condsT, joinC]
  | cons c t => rw [join_cons 32 _ _ (condsW_ne true (by simp))]; rfl
theorem act_len {a : ACT} (h : actF a = 0) : (joinC 32 (actW a)).length ≤ 30 := by
  rcases act_cases h with rfl | rfl | ⟨n, h1, h2, rfl⟩
  · decide
  · decide
  · have := nDigits_le20 n (by omega)
    simp [actW, joinC, wDeny]
    omega
theorem name_len {nr : Int} (h0 : 0 ≤ nr) (h8 : nr ≤ 8) : (nameOf nr).length ≤ 7 := by
  obtain ⟨k, rfl⟩ : ∃ k : Nat, nr = k := ⟨nr.toNat, by omega⟩
  rcases nine (show k ≤ 8 by omega) with rfl | rfl | rfl | rfl | rfl | rfl | rfl | rfl | rfl <;> decide
theorem cond_len {c : CD} (h : Shape c) : (joinC 32 (condW c)).length ≤ 130 := by
  cases h with
  | num a k v ha h1 h6 hv =>
    have := nDigits_le20 a (by omega)
    have := nDigits_le20 v hv
    rcases six h1 h6 with rfl | rfl | rfl | rfl | rfl | rfl <;> (simp [condW, signOf, signW, joinC]; omega)
  | mask a v m ha hv hm =>
    have := nDigits_le20 a (by omega)
    have := nDigits_le20 v hv
    have := nDigits_le20 m hm
    simp [condW, signOf, signW, joinC]
    omega
  | like a g ha hg =>
    have := nDigits_le20 a (by omega)
    have := (glob_print hg).2
    rw [Lib.size_eq] at this
    simp [condW, signOf, signW, joinC]
    simp at this
    omega
  | net a ip b lo hi ha hip hf =>
    have := nDigits_le20 a (by omega)
    have := netText_len hf hip
    simp [condW, signOf, signW, joinC, netW]
    omega
theorem condsT_len : ∀ (n : Nat) (cs : List CD), cs.length = n → ShapeAll cs → (condsT cs).length ≤ n * 140
  | 0, cs, h, _ => by
    rw [List.length_eq_zero_iff.1 h]
    simp [condsT]
  | n + 1, cs, h, hs => by
    have hne : cs ≠ [] := fun e => by rw [e] at h; simp at h
    obtain ⟨ys, y, rfl⟩ : ∃ ys y, cs = ys ++ [y] := ⟨cs.dropLast, cs.getLast hne, (List.dropLast_concat_getLast hne).symm⟩
    rw [condsT_snoc]
    have h1 := condsT_len n ys (by simpa using h) fun c hc => hs c (by simp [hc])
    have h2 := cond_len (hs y (by simp))
    simp only [List.length_append]
    split <;> simp <;> omega
theorem rule_len {r : RL} (h : RuleOk r) : (joinC 32 (ruleW r)).length ≤ 600 := by
  rw [ruleT]
  have h1 := act_len h.act
  have h2 := name_len h.nr0 h.nr8
  have h3 := condsT_len _ r.conds rfl h.conds
  have h4 := h.few
  simp only [List.length_append, List.length_cons]
  omega
/-- The text of the first rules. -/
def rulesT (rs : List RL) : W8 := rs.flatMap fun r => joinC 32 (ruleW r) ++ [10]
theorem rulesT_snoc (rs : List RL) (r : RL) : rulesT (rs ++ [r]) = rulesT rs ++ (joinC 32 (ruleW r) ++ [10]) := by simp [rulesT]
theorem textT (p : POL) : textP p = [101, 108, 115, 101, 32] ++ joinC 32 (actW p.els) ++ [10] ++ rulesT p.rules := by
  unfold textP rulesT
  rw [join_cons 32 _ _ (actW_ne _)]
  simp [wElse]
theorem rulesT_len : ∀ rs : List RL, (∀ r ∈ rs, RuleOk r) → (rulesT rs).length ≤ rs.length * 601
  | [], _ => by simp [rulesT]
  | r :: t, h => by
    have h1 := rule_len (h r (by simp))
    have h2 := rulesT_len t fun x hx => h x (by simp [hx])
    simp only [rulesT, List.flatMap_cons, List.length_append, List.length_cons, List.length_nil] at h2 ⊢
    omega
theorem text_len {p : POL} (h : PolOk p) : (textP p).length ≤ 7500 := by
  rw [textT]
  have h1 := act_len h.els
  have h2 := rulesT_len p.rules h.rules
  have h3 := h.few
  simp only [List.length_append, List.length_cons, List.length_nil]
  omega
end Go.Proofs.YtkogafponpjdnaaGreatDoor

/- policy.Text: the walks over rules, and over a policy. -/
namespace Go.Proofs.YtkogafponpjdnaaGreatDoor
open Go.RowKit Go.Sort

theorem conds_parts {oa : Option Addr} {cs : List CD} {w : World} (hc : IsConds oa cs w) (n : Nat) (hn : n = cs.length) : 0 < n → ∃ b off, oa = some ⟨b, off, none⟩ ∧ b < w.heap.size ∧ Hid (∀ i c, cs[i]? = some c → CondAt w b (off + i * 9) c) := fun h => by
  obtain ⟨b, off, q1, q2, q3⟩ := hc.lie (by omega)
  exact ⟨b, off, q1, q2, hide q3⟩
/-- What stands ahead of the cond at i. -/
def joinB (i : Nat) : ByteArray := if i = 0 then ⟨#[32, 105, 102, 32]⟩ else ⟨#[32, 97, 110, 100, 32]⟩

set_option maxHeartbeats 4000000 in
theorem ruleText_any (r : RL) (h : RuleOk r) (oa : Option Addr) (cap : Nat) (w : World) (hc : IsConds oa r.conds w) (hE : EV w) :
    Calls Tryz.prog 43 #[ruleV r oa cap] w fun e w' => e = .returned (.string (bs (joinC 32 (ruleW r)))) ∧ Below w.heap.size w w' := by
  obtain ⟨n, hn⟩ : ∃ n, n = r.conds.length := ⟨_, rfl⟩
  have HC := hide (conds_parts hc n hn)
  have hT := ruleT r
  obtain ⟨k, hk⟩ : ∃ k : Nat, r.nr = k := ⟨r.nr.toNat, by have := h.nr0; omega⟩
  have hk8 : k ≤ 8 := by have := h.nr8; omega
  have h4 : n ≤ 4 := by have := h.few; omega
  have hal := act_len h.act
  have hnl := name_len h.nr0 h.nr8
  have HA := fun X hX => actText_any r.act h.act X hX
  have HSH := hide h.conds
  have HL := hide (show ∀ i, i < n → ∃ c, r.conds[i]? = some c ∧ r.conds.take (i + 1) = r.conds.take i ++ [c] from fun i h => take_next (by omega))
  clear h hc
  obtain ⟨nr, cs, ⟨ak, ae⟩⟩ := r
  unfold ruleV
  unfold actV at HA
  simp only at hk hT HC HSH HL HA hn hnl ⊢
  subst hk
  rw [← hn]
  obtain ⟨R, hR⟩ : ∃ R : W8, R = joinC 32 (ruleW ⟨k, cs, ⟨ak, ae⟩⟩) := ⟨_, rfl⟩
  rw [← hR] at hT ⊢
  clear hR
  obtain ⟨at0, hat⟩ : ∃ t : W8, t = joinC 32 (actW ⟨ak, ae⟩) := ⟨_, rfl⟩
  rw [← hat] at hT HA hal
  clear hat
  obtain ⟨A, hA⟩ : ∃ t : ByteArray, t = bs at0 := ⟨_, rfl⟩
  have hAs : A.size ≤ 30 := by rw [hA, bs_size]; exact hal
  rw [← hA] at HA
  have fx := forms_index k hk8
  have fk := form_name k
  have HFO := forms_any
  obtain ⟨FA, hFA⟩ : ∃ a, a = formsArr := ⟨_, rfl⟩
  rw [← hFA] at fx HFO
  obtain ⟨FV, hFV⟩ : ∃ a, a = formV k := ⟨_, rfl⟩
  rw [← hFV] at fx fk
  obtain ⟨NM, hNM⟩ : ∃ t : ByteArray, t = bs (nameOf k) := ⟨_, rfl⟩
  have hNs : NM.size ≤ 7 := by rw [hNM, bs_size]; exact hnl
  rw [show (⟨(nameOf (k : Nat)).toArray⟩ : ByteArray) = NM from hNM.symm] at fk
  have HT := hide (show bs R = A ++ ⟨#[32]⟩ ++ NM ++ bs (condsT cs) by
    rw [hT, hA, hNM, bs32, bs_append, bs_append, bs_append]
    simp)
  have HN := hide hn
  have HE := hide hE
  obtain ⟨S0, hS0⟩ : ∃ t : ByteArray, t = A ++ ⟨#[32]⟩ ++ NM := ⟨_, rfl⟩
  have HS0 := hide hS0
  have hS0s : S0.size ≤ 40 := by rw [hS0, ByteArray.size_append, ByteArray.size_append]; have : (⟨#[32]⟩ : ByteArray).size = 1 := rfl; omega
  clear hFA hFV hNM hA hT hE hn hnl hal hS0
  have z1 : ¬ 9223372036854775807 < A.size + 1 := by omega
  have z2 : ¬ 9223372036854775807 < A.size + 1 + NM.size := by omega
  have i1 : (0 : Int) ≤ k := by omega
  have i2 : (k : Int) < 9 := by omega
  go_enter Tryz.func43, Tryz.ntmps43
  go_wp2
  obtain ⟨V, hV, hB, hsz, hx⟩ := one_box w #[.int .i64 k, .slice oa n cap, .int .i64 ak, .int .i64 ae] 65
  rw [← hV]
  clear hV
  have HEV := hide (HE.out.on hB)
  have g0 := cell_regrown (hx 0)
  have g1 := cell_regrown (hx 1)
  have g2 := cell_regrown (hx 2)
  have g3 := cell_regrown (hx 3)
  have cA : ∀ d' os, Calls Tryz.prog 42 #[.agg #[.int .i64 ak, .int .i64 ae]] (grow (redrawn V d') os) fun e w'' => e = .returned (.string A) ∧ ∃ p : Regrown, w'' = grow (redrawn V p.d) p.os := fun d' os => Calls.regrown_of (HA _ (HEV.out.on (below_regrown _ _ _)))
  have cF : ∀ d' os, Calls Tryz.prog 48 #[] (grow (redrawn V d') os) fun e w'' => e = .returned (.agg FA) ∧ ∃ p : Regrown, w'' = grow (redrawn V p.d) p.os := fun d' os => Calls.regrown_of (HFO _)
  refine wp_region_quiet_below (by kernel_rfl) (by kernel_rfl) ?_
  repeat (go_big_quiet_step (first | (go_at_call 42; exact cA _ _) | (go_at_call 48; exact cF _ _)))
  refine wpQuiet_nil ?_
  intro _ hw'
  obtain ⟨⟨dq, osq⟩, hw''⟩ := hw'
  subst hw''
  rw [← HS0.out]
  clear cA cF HA HFO fx fk g0 g1 g2 g3
  refine forget_any (fun X => Below V.heap.size V X) (below_regrown V dq osq) ?_
  intro X hX
  have k1 := keep_cell hX (hx 1)
  go_wp2
  go_loopw [19, 3, 4] (fun I S J w' => ∃ (i : Nat) (t : ByteArray), i ≤ n ∧ I = .int .i64 i ∧ S = .string t ∧ t.size ≤ 40 + i * 140 ∧ Hid (t = S0 ++ bs (condsT (cs.take i))) ∧ J = .string (joinB i) ∧ Hid (Below X.heap.size X w')) (fun I _ _ _ => n - (intOf I).toNat)
  case atStart => exact ⟨0, S0, by omega, rfl, rfl, by omega, hide (by rw [List.take_zero]; apply ByteArray.ext; simp [condsT, bs, ByteArray.data_append]), rfl, hide (Below.refl _ _)⟩
  case round =>
    obtain ⟨i, t, hi, rfl, rfl, hts, HTT, rfl, HB⟩ := hrel
    have HW := hide (below_next (below_next hB hX) HB.out)
    by_cases hlt : i < n
    · obtain ⟨c, hcs, hcat⟩ := HL.out i hlt
      obtain ⟨b, off, rfl, hbw, HA2⟩ := HC.out (by omega)
      have hA := (HA2.out i c hcs).on fun j => (bcell HW.out).1 b j hbw
      have hsh := HSH.out c (List.mem_of_getElem? hcs)
      have hcl := cond_len hsh
      have HCT := condText_any hsh wr (HE.out.on HW.out)
      obtain ⟨q, hq⟩ : ∃ q : ByteArray, q = bs (joinC 32 (condW c)) := ⟨_, rfl⟩
      have hqs : q.size ≤ 130 := by rw [hq, bs_size]; exact hcl
      rw [← hq] at HCT
      obtain ⟨J, hJ⟩ : ∃ J, J = joinB i := ⟨_, rfl⟩
      have hJs : J.size ≤ 5 := by rw [hJ]; unfold joinB; split <;> decide
      have HS := hide (show t ++ (J ++ q) = S0 ++ bs (condsT (cs.take (i + 1))) by
        rw [hcat, condsT_snoc, HTT.out, hJ, hq, ← bs_append, ← bs_append, ByteArray.append_assoc]
        congr 2
        congr 1
        have hl : (cs.take i).isEmpty = decide (i = 0) := by
          rw [Bool.eq_iff_iff]
          simp only [List.isEmpty_iff, decide_eq_true_eq]
          have hn := HN.out
          constructor
          · intro h
            have h2 : (cs.take i).length = 0 := by rw [h]; rfl
            rw [List.length_take] at h2
            omega
          · rintro rfl
            simp
        rw [hl]
        unfold joinB
        by_cases e : i = 0
        · simp [e]; rfl
        · simp [e]; rfl)
      rw [← hJ]
      clear hq hJ hcs hcat hcl hsh HTT
      obtain ⟨a0, a1, a2, a3, a4, a5, a6, a7, a8, _⟩ := hA
      obtain ⟨arg, op, v, m, gl, ⟨ip, bb, lo, hh⟩⟩ := c
      unfold condV at HCT
      simp only at a0 a1 a2 a3 a4 a5 a6 a7 a8 HCT
      have g1 := keep_cell HB.out k1
      have z3 : ¬ 9223372036854775807 < J.size + q.size := by omega
      have z4 : ¬ 9223372036854775807 < t.size + (J.size + q.size) := by omega
      go_wp2_with (go_at_call 64; refine HCT.mono ?_; rintro e w1 ⟨rfl, hb1⟩)
      go_round
      case rel => exact ⟨i + 1, _, by omega, by go_num, rfl, by rw [ByteArray.size_append, ByteArray.size_append]; omega, HS, by unfold joinB; rw [if_neg (by omega)], hide (below_next HB.out hb1)⟩
      case measure => simp [intOf]; omega
    · obtain rfl : i = n := by omega
      go_wp2
      go_ret
      refine ⟨?_, HW.out⟩
      rw [HT.out, ← HS0.out]
      have := HTT.out
      rw [List.take_of_length_le (by rw [HN.out]; exact Nat.le_refl _)] at this
      rw [← this]
      rfl

set_option maxHeartbeats 4000000 in
theorem write_any (p : POL) (h : PolOk p) (oa : Option Addr) (cap : Nat) (w : World) (hp : IsPol oa cap p w) (hE : EV w) :
    Calls Tryz.prog 23 #[polV p oa cap] w fun e w' => e = .returned (.string (bs (textP p))) ∧ Below w.heap.size w w' := by
  obtain ⟨n, hn⟩ : ∃ n, n = p.rules.length := ⟨_, rfl⟩
  have HC := hide (pol_parts hp n hn)
  have hT := textT p
  have h12 : n ≤ 12 := by have := h.few; omega
  have hal := act_len h.els
  have HA := fun X hX => actText_any p.els h.els X hX
  have HRU := hide h.rules
  have HL := hide (show ∀ i, i < n → ∃ c, p.rules[i]? = some c ∧ p.rules.take (i + 1) = p.rules.take i ++ [c] from fun i h => take_next (by omega))
  clear h hp
  obtain ⟨rs, ⟨ak, ae⟩⟩ := p
  unfold polV
  unfold actV at HA
  simp only at hT HC HRU HL HA hn ⊢
  rw [← hn]
  obtain ⟨R, hR⟩ : ∃ R : W8, R = textP ⟨rs, ⟨ak, ae⟩⟩ := ⟨_, rfl⟩
  rw [← hR] at hT ⊢
  clear hR
  obtain ⟨at0, hat⟩ : ∃ t : W8, t = joinC 32 (actW ⟨ak, ae⟩) := ⟨_, rfl⟩
  rw [← hat] at hT HA hal
  clear hat
  obtain ⟨A, hA⟩ : ∃ t : ByteArray, t = bs at0 := ⟨_, rfl⟩
  have hAs : A.size ≤ 30 := by rw [hA, bs_size]; exact hal
  rw [← hA] at HA
  have HT := hide (show bs R = ⟨#[101, 108, 115, 101, 32]⟩ ++ A ++ ⟨#[10]⟩ ++ bs (rulesT rs) by
    rw [hT, hA, show (⟨#[101, 108, 115, 101, 32]⟩ : ByteArray) = bs [101, 108, 115, 101, 32] from rfl, show (⟨#[10]⟩ : ByteArray) = bs [10] from rfl, bs_append, bs_append, bs_append])
  have HN := hide hn
  have HE := hide hE
  obtain ⟨S0, hS0⟩ : ∃ t : ByteArray, t = ⟨#[101, 108, 115, 101, 32]⟩ ++ A ++ ⟨#[10]⟩ := ⟨_, rfl⟩
  have HS0 := hide hS0
  have hS0s : S0.size ≤ 40 := by rw [hS0, ByteArray.size_append, ByteArray.size_append]; have : (⟨#[101, 108, 115, 101, 32]⟩ : ByteArray).size = 5 := rfl; have : (⟨#[10]⟩ : ByteArray).size = 1 := rfl; omega
  clear hA hT hE hn hal hS0
  have z1 : ¬ 9223372036854775807 < 5 + A.size := by omega
  have z2 : ¬ 9223372036854775807 < 5 + A.size + 1 := by omega
  go_enter Tryz.func23, Tryz.ntmps23
  obtain ⟨V, hV, hB, hsz, hx⟩ := one_box w #[.slice oa n cap, .int .i64 ak, .int .i64 ae] 26
  go_wp2_with (go_at_call 42; rw [← hV]; clear hV; refine (HA _ (HE.out.on hB)).mono ?_; rintro e X ⟨rfl, hX⟩; have k0 := keep_cell hX (hx 0); refine Hid.out ?_)
  refine hide ?_
  go_wp2
  rw [← HS0.out]
  go_loopw [13, 3] (fun I S w' => ∃ (i : Nat) (t : ByteArray), i ≤ n ∧ I = .int .i64 i ∧ S = .string t ∧ t.size ≤ 40 + i * 601 ∧ Hid (t = S0 ++ bs (rulesT (rs.take i))) ∧ Hid (Below X.heap.size X w')) (fun I _ _ => n - (intOf I).toNat)
  case atStart => exact ⟨0, S0, by omega, rfl, rfl, by omega, hide (by rw [List.take_zero]; apply ByteArray.ext; simp [rulesT, bs, ByteArray.data_append]), hide (Below.refl _ _)⟩
  case round =>
    obtain ⟨i, t, hi, rfl, rfl, hts, HTT, HB⟩ := hrel
    have HW := hide (below_next (below_next hB hX) HB.out)
    by_cases hlt : i < n
    · obtain ⟨c, hcs, hcat⟩ := HL.out i hlt
      obtain ⟨b, off, rfl, hbw, HA2⟩ := HC.out (by omega)
      obtain ⟨ca, cc, hR0⟩ := HA2.out i c hcs
      have hRA := hR0.on hbw HW.out
      clear hR0
      have hok := HRU.out c (List.mem_of_getElem? hcs)
      have hcl := rule_len hok
      have HCT := ruleText_any c hok ca cc wr hRA.conds (HE.out.on HW.out)
      obtain ⟨q, hq⟩ : ∃ q : ByteArray, q = bs (joinC 32 (ruleW c)) := ⟨_, rfl⟩
      have hqs : q.size ≤ 600 := by rw [hq, bs_size]; exact hcl
      rw [← hq] at HCT
      have HS := hide (show t ++ (q ++ ⟨#[10]⟩) = S0 ++ bs (rulesT (rs.take (i + 1))) by
        rw [hcat, rulesT_snoc, HTT.out, hq, ← bs_append, ← bs_append, ByteArray.append_assoc]
        rfl)
      clear hq hcs hcat hcl hok HTT
      obtain ⟨a0, a1, a2, a3, _, _, _, _⟩ := hRA
      obtain ⟨nr, cs, ⟨rk, re⟩⟩ := c
      unfold ruleV at HCT
      simp only at a0 a1 a2 a3 HCT
      have g0 := keep_cell HB.out k0
      have z3 : ¬ 9223372036854775807 < q.size + 1 := by omega
      have z4 : ¬ 9223372036854775807 < t.size + (q.size + 1) := by omega
      go_wp2_with (go_at_call 43; refine HCT.mono ?_; rintro e w1 ⟨rfl, hb1⟩)
      go_round
      case rel => exact ⟨i + 1, _, by omega, by go_num, rfl, by rw [ByteArray.size_append, ByteArray.size_append]; have : (⟨#[10]⟩ : ByteArray).size = 1 := rfl; omega, HS, hide (below_next HB.out hb1)⟩
      case measure => simp [intOf]; omega
    · obtain rfl : i = n := by omega
      go_wp2
      go_ret
      refine ⟨?_, HW.out⟩
      rw [HT.out, ← HS0.out]
      have := HTT.out
      rw [List.take_of_length_le (by rw [HN.out]; exact Nat.le_refl _)] at this
      rw [← this]
      rfl

/-- What Text hands back. -/
def ptextV (p : POL) : Value := .tuple #[.string (if polF p = 0 then bs (textP p) else ⟨#[]⟩), errV (polF p)]
theorem ptext_any (p : POL) (oa : Option Addr) (cap : Nat) (w : World) (hp : IsPol oa cap p w) (hE : EV w) :
    Calls Tryz.prog 10 #[polV p oa cap] w fun e w' => e = .returned (ptextV p) ∧ Below w.heap.size w w' := by
  have HC := fun w' h => pcheck_any p oa cap w' h
  obtain ⟨V, hV, hB, hsz, hx⟩ := one_box w #[.slice oa p.rules.length cap, .int .i64 p.els.kind, .int .i64 p.els.errno] 26
  have HP := hide (hp.on hB)
  have HE := hide (hE.on hB)
  by_cases h : polF p = 0
  · have HV := hide (show ptextV p = .tuple #[.string (bs (textP p)), .nilIface] by unfold ptextV; rw [if_pos h, h]; rfl)
    have HW := fun w' h1 h2 => write_any p (pol_ok h hp.ok) oa cap w' h1 h2
    obtain ⟨T, hT⟩ : ∃ t : ByteArray, t = bs (textP p) := ⟨_, rfl⟩
    rw [← hT] at HV HW
    rw [h, errV_zero] at HC
    clear hT h hp hE
    unfold polV at *
    go_enter Tryz.func10, Tryz.ntmps10
    go_wp2_with (first
      | (go_at_call 14; rw [← hV]; clear hV; refine (HC _ HP.out).mono ?_; rintro e X ⟨rfl, hX⟩; have k0 := keep_cell hX (hx 0); have k1 := keep_cell hX (hx 1); have k2 := keep_cell hX (hx 2); have HX := hide hX; clear hX)
      | (go_at_call 23; refine (HW _ (HP.out.on HX.out) (HE.out.on HX.out)).mono ?_; rintro e Y ⟨rfl, hY⟩))
    go_ret2
    exact ⟨by rw [HV.out]; rfl, below_next (below_next hB HX.out) hY⟩
  · have HV := hide (show ptextV p = .tuple #[.string ⟨#[]⟩, .iface 75 (.int .i64 (polF p : Nat))] by unfold ptextV; rw [if_neg h, errV_pos h])
    rw [errV_pos h] at HC
    clear h hp hE
    unfold polV at *
    go_enter Tryz.func10, Tryz.ntmps10
    go_wp2_with (go_at_call 14; rw [← hV]; clear hV; refine (HC _ HP.out).mono ?_; rintro e X ⟨rfl, hX⟩)
    go_ret2
    exact ⟨by rw [HV.out]; rfl, below_next hB hX⟩
end Go.Proofs.YtkogafponpjdnaaGreatDoor

/- Words of a line, taken off one by one. -/
namespace Go.Proofs.YtkogafponpjdnaaGreatDoor
open Go.RowKit Go.Sort

/-- All blocks but g are as they were; new ones may lie behind. -/
structure But (g : Nat) (w w' : World) : Prop where
  os : w'.os = w.os
  tape : w'.tape = w.tape
  output : w'.output = w.output
  size : w.heap.size ≤ w'.heap.size
  block : ∀ k, k < w.heap.size → k ≠ g → w'.heap[k]? = w.heap[k]?
theorem But.refl (g : Nat) (w : World) : But g w w := ⟨rfl, rfl, rfl, Nat.le_refl _, fun _ _ _ => rfl⟩
theorem But.trans {g : Nat} {a b c : World} (h : But g a b) (k : But g b c) : But g a c :=
  ⟨k.os.trans h.os, k.tape.trans h.tape, k.output.trans h.output, Nat.le_trans h.size k.size, fun i hi hn => (k.block i (Nat.lt_of_lt_of_le hi h.size) hn).trans (h.block i hi hn)⟩
theorem But.of {g : Nat} {w w' : World} (h : Below w.heap.size w w') : But g w w' := ⟨h.os, h.tape, h.output, h.size, fun k hk _ => h.block k hk⟩
theorem But.below {B g : Nat} {a w w' : World} (h : Below B a w) (hg : B ≤ g) (hB : B ≤ w.heap.size) (k : But g w w') : Below B a w' :=
  h.trans ⟨k.os, k.tape, k.output, k.size, fun i hi => k.block i (by omega) (by omega)⟩
theorem But.set (g o : Nat) (w : World) (v : Value) : But g w (w.setCell ⟨g, o, none⟩ v) := ⟨rfl, rfl, rfl, by simp [World.setCell], fun k _ hn => Below.heap_setCell _ _ _ _ hn⟩
theorem cell_heap {w w' : World} {b : Nat} (h : w'.heap[b]? = w.heap[b]?) (o : Nat) : w'.cell? ⟨b, o, none⟩ = w.cell? ⟨b, o, none⟩ := by
  unfold World.cell?
  simp only [h]
theorem frozen_heap {w w' : World} {b : Nat} (h : w'.heap[b]? = w.heap[b]?) (o : Nat) : w'.frozen? ⟨b, o, none⟩ = w.frozen? ⟨b, o, none⟩ := by
  unfold World.frozen?
  simp only [h]
theorem But.cell {g : Nat} {w w' : World} (k : But g w w') {b o : Nat} {v : Value} (hn : b ≠ g) (h : w.cell? ⟨b, o, none⟩ = some v) : w'.cell? ⟨b, o, none⟩ = some v :=
  (cell_heap (k.block b (block_lt_of_cell h) hn) o).trans h

/-- The words that are left, behind the pointer to block g; all lies below B. -/
structure IsWords (W : World) (g B : Nat) (ws : List W8) : Prop where
  ex : ∃ oa cap, W.cell? ⟨g, 0, none⟩ = some (.slice oa ws.length cap) ∧ ws.length ≤ cap ∧ cap ≤ maxLen ∧ (0 < ws.length → ∃ b off, oa = some ⟨b, off, none⟩ ∧ b ≠ g ∧ b < B ∧ ∀ i x, ws[i]? = some x → W.cell? ⟨b, off + i, none⟩ = some (.string (bs x)))
  fro : W.frozen? ⟨g, 0, none⟩ = false
  lt : g < B
  le : B ≤ W.heap.size
  small : ∀ x ∈ ws, x.length ≤ 9000
theorem IsWords.heap {W V : World} {g B : Nat} {ws : List W8} (h : IsWords W g B ws) (hs : B ≤ V.heap.size) (hb : ∀ k, k < B → V.heap[k]? = W.heap[k]?) : IsWords V g B ws := by
  obtain ⟨oa, cap, h1, h2, h3, h4⟩ := h.ex
  refine ⟨⟨oa, cap, (cell_heap (hb g h.lt) 0).trans h1, h2, h3, fun h0 => ?_⟩, (frozen_heap (hb g h.lt) 0).trans h.fro, h.lt, hs, h.small⟩
  obtain ⟨b, off, e, hn, hlt, hc⟩ := h4 h0
  exact ⟨b, off, e, hn, hlt, fun i x hi => (cell_heap (hb b hlt) _).trans (hc i x hi)⟩
theorem IsWords.on {W V : World} {g B : Nat} {ws : List W8} (h : IsWords W g B ws) (hb : Below W.heap.size W V) : IsWords V g B ws :=
  h.heap (Nat.le_trans h.le hb.size) fun k hk => hb.block k (Nat.lt_of_lt_of_le hk h.le)
theorem head_small {W : World} {g B : Nat} {ws : List W8} (h : IsWords W g B ws) : (ws.headD []).length ≤ 9000 := by
  cases ws with
  | nil => simp
  | cons x r => exact h.small x (by simp)

/-- .. the first one taken off. -/
theorem IsWords.next {w : World} {g B : Nat} {x : W8} {r : List W8} (h : IsWords w g B (x :: r)) {v : Value} (h1 : w.cell? ⟨g, 0, none⟩ = some v) {cc : Nat} (h2 : r.length ≤ cc) (h3 : cc ≤ maxLen) (oa : Option Addr)
    (h4 : 0 < r.length → ∃ b off, oa = some ⟨b, off, none⟩ ∧ b ≠ g ∧ b < B ∧ ∀ i x, r[i]? = some x → w.cell? ⟨b, off + i, none⟩ = some (.string (bs x))) : IsWords (w.setCell ⟨g, 0, none⟩ (.slice oa r.length cc)) g B r := by
  refine ⟨⟨oa, cc, World.cell?_setCell_same _ _ _ h1, h2, h3, fun h0 => ?_⟩, ?_, h.lt, Nat.le_trans h.le (But.set g 0 w _).size, fun y hy => h.small y (by simp [hy])⟩
  · obtain ⟨b, off, e, hn, hlt, hc⟩ := h4 h0
    exact ⟨b, off, e, hn, hlt, fun i x hi => (But.set g 0 w _).cell hn (hc i x hi)⟩
  · rw [World.frozen?_setCell]
    exact h.fro
theorem next_any (ws : List W8) (g B : Nat) (w : World) (h : IsWords w g B ws) : Calls Tryz.prog 58 #[.pointer (some ⟨g, 0, none⟩)] w fun e w' => e = .returned (.string (bs (ws.headD []))) ∧ IsWords w' g B ws.tail ∧ But g w w' := by
  obtain ⟨oa, cap, h1, h2, h3, h4⟩ := h.ex
  have hfr := h.fro
  cases ws with
  | nil =>
    have HH := hide h
    clear h4 h
    simp only [List.length_nil] at h1
    go_enter Tryz.func58, Tryz.ntmps58
    go_wp2
    go_ret
    exact ⟨rfl, HH.out, But.refl _ _⟩
  | cons x r =>
    obtain ⟨b, off, rfl, hn, hlt, hc⟩ := h4 (by simp)
    have c0 := hc 0 x rfl
    have HC := hide hc
    have HH := hide h
    simp only [List.length_cons, Nat.add_zero] at h1 h2 c0
    obtain ⟨n, hn'⟩ : ∃ n, n = r.length := ⟨_, rfl⟩
    rw [← hn'] at h1 h2
    have HN := hide hn'
    obtain ⟨q, hq⟩ : ∃ q, q = bs x := ⟨_, rfl⟩
    rw [← hq] at c0
    have HQ := hide hq
    unfold maxLen at h3
    clear hc h hn' hq h4
    obtain ⟨cc, rfl⟩ : ∃ c, cap = c + 1 := ⟨cap - 1, by omega⟩
    go_enter Tryz.func58, Tryz.ntmps58
    go_wp2
    all_goals
      go_ret
      refine ⟨by rw [HQ.out]; rfl, ?_, But.set _ _ _ _⟩
      rw [HN.out] at h1 h2 ⊢
      exact HH.out.next h1 (by omega) (by unfold maxLen; omega) _ fun h0 => ⟨b, off + 1, by first | rfl | (rw [HN.out] at *; omega), hn, hlt, fun i y hi => by
        have := HC.out (i + 1) y (by rw [List.getElem?_cons_succ]; exact hi)
        rwa [show off + (i + 1) = off + 1 + i by omega] at this⟩

/-! Numbers. -/
theorem tab_heap {w w' : World} (h : Tab w) (hb : ∀ k, k < 7 → w'.heap[k]? = w.heap[k]?) : Tab w' := by
  unfold Tab Lib.TabIs World.var? at *
  rw [show Tryz.prog.globalNamed "internal/strconv.uint64pow10" = some 2 by kernel_rfl] at *
  simp only [Option.bind_some] at *
  rw [hb 2 (by omega)]
  exact h
theorem EV.heap {w w' : World} (h : EV w) (hb : ∀ k, k < 7 → w'.heap[k]? = w.heap[k]?) : EV w' :=
  ⟨tab_heap h.tab hb, fun i hi => (cell_heap (hb 0 (by omega)) i).trans (h.sign i hi), by
    obtain ⟨m, hm⟩ := h.maxl
    exact ⟨m, (cell_heap (hb 1 (by omega)) 0).trans hm⟩, by
    obtain ⟨m, hm, hx⟩ := h.syn
    exact ⟨m, (cell_heap (hb 5 (by omega)) 0).trans hm, hx⟩, by
    obtain ⟨m, hm, hx⟩ := h.rng
    exact ⟨m, (cell_heap (hb 6 (by omega)) 0).trans hm, hx⟩⟩
theorem EV.lt {w : World} (h : EV w) : 7 ≤ w.heap.size := by
  obtain ⟨m, hm, _⟩ := h.rng
  exact block_lt_of_cell hm
theorem EV.but {w w' : World} {g : Nat} (h : EV w) (hg : 7 ≤ g) (hb : But g w w') : EV w' := h.heap fun k hk => hb.block k (by have := h.lt; omega) (by omega)

theorem parseUint_any (s : ByteArray) (hs : s.size ≤ 9000) (w : World) (hE : EV w) : Calls Tryz.prog 90 #[.string s, .int .i64 10, .int .i64 64] w fun e w' => (∃ (u : Nat) (er : Value), e = .returned (.tuple #[.int .u64 u, er]) ∧ (er = .nilIface ∧ u = numU s.data.toList ∨ (∃ t p, er = .iface t p) ∧ numU s.data.toList = 0)) ∧ Below w.heap.size w w' := by
  cases h : Lib.parseUintB 64 s.data.toList with
  | ok u =>
    refine (Tryz.strconv_ParseUint_10_at64_ok s (by omega) u h w).mono ?_
    rintro e w' ⟨rfl, hw⟩
    refine ⟨⟨u, _, rfl, .inl ⟨rfl, by unfold numU; rw [h]⟩⟩, ?_⟩
    rcases hw with rfl | rfl
    · exact Below.refl _ _
    · exact Go.Joins.below_bytesWorld _ _ _ _ (Nat.le_refl _)
  | «syntax» =>
    obtain ⟨ev, h1, h2⟩ := hE.syn
    refine (Tryz.strconv_ParseUint_10_at64_syntax s (by omega) h ev w h1 h2).mono ?_
    rintro e w' ⟨N, rfl, _, _, hb⟩
    exact ⟨⟨0, _, rfl, .inr ⟨⟨_, _, rfl⟩, by unfold numU; rw [h]⟩⟩, hb⟩
  | range =>
    obtain ⟨ev, h1, h2⟩ := hE.rng
    refine (Tryz.strconv_ParseUint_10_at64_range s (by omega) h ev w h1 h2).mono ?_
    rintro e w' ⟨N, rfl, _, _, hb⟩
    exact ⟨⟨18446744073709551615, _, rfl, .inr ⟨⟨_, _, rfl⟩, by unfold numU; rw [h]⟩⟩, hb⟩
theorem readNum_any (ws : List W8) (g B : Nat) (hg : 7 ≤ g) (w : World) (h : IsWords w g B ws) (hE : EV w) : Calls Tryz.prog 77 #[.pointer (some ⟨g, 0, none⟩)] w fun e w' => e = .returned (.int .u64 (numU (ws.headD []))) ∧ IsWords w' g B ws.tail ∧ But g w w' := by
  have HN := next_any ws g B w h
  have hs := head_small h
  obtain ⟨q, hq⟩ : ∃ q, q = bs (ws.headD []) := ⟨_, rfl⟩
  rw [← hq] at HN
  have HP := fun X hX => parseUint_any q (by rw [hq, bs_size]; exact hs) X hX
  rw [show q.data.toList = ws.headD [] by rw [hq, bs_data]] at HP
  obtain ⟨u, hu⟩ : ∃ u, u = numU (ws.headD []) := ⟨_, rfl⟩
  rw [← hu] at HP ⊢
  have HE := hide hE
  clear hq hu hs h hE
  go_enter Tryz.func77, Tryz.ntmps77
  go_wp2_with (first
    | (go_at_call 58; refine HN.mono ?_; rintro e X ⟨rfl, hX, hXb⟩; have HX := hide hX; have HXB := hide hXb; clear hX hXb)
    | (go_at_call 90; refine (HP _ (HE.out.but hg HXB.out)).mono ?_; rintro e Y ⟨⟨v, er, rfl, hv⟩, hY⟩; have HV := hide hv; clear hv; refine Hid.out ?_))
  refine hide ?_
  rcases HV.out with ⟨rfl, rfl⟩ | ⟨⟨t, p, rfl⟩, hz⟩
  · go_wp2
    go_ret
    exact ⟨rfl, HX.out.on hY, HXB.out.trans (But.of hY)⟩
  · have HZ := hide hz
    clear hz HV
    go_wp2
    go_ret
    exact ⟨by rw [HZ.out]; rfl, HX.out.on hY, HXB.out.trans (But.of hY)⟩
end Go.Proofs.YtkogafponpjdnaaGreatDoor

/- Names and signs found; a text cloned. -/
namespace Go.Proofs.YtkogafponpjdnaaGreatDoor
open Go.RowKit Go.Sort

theorem sclone_any (s : ByteArray) (hs : s.size ≤ 281474976710656) (w : World) : Calls Tryz.prog 92 #[.string s] w fun e w' => e = .returned (.string s) ∧ Below w.heap.size w w' := by
  go_enter Tryz.func92, Tryz.ntmps92
  go_wp2_with (go_at_call 110; refine (Tryz.stringslite_Clone s _ hs).mono ?_; rintro e w' ⟨rfl, hb⟩)
  go_ret
  exact ⟨rfl, hb⟩

theorem find_none {l : List W8} {x : W8} (h : ∀ i, i < l.length → l.getD i [] ≠ x) : l.findIdx? (· == x) = none := by
  rw [List.findIdx?_eq_none_iff]
  intro y hy
  obtain ⟨i, hi, rfl⟩ := List.mem_iff_getElem.1 hy
  have := h i hi
  rw [List.getD_eq_getElem?_getD, List.getElem?_eq_getElem hi, Option.getD_some] at this
  simpa using this
theorem find_at {l : List W8} {x : W8} {i : Nat} (hi : i < l.length) (h : l.getD i [] = x) (hj : ∀ j, j < i → l.getD j [] ≠ x) : l.findIdx? (· == x) = some i := by
  rw [List.findIdx?_eq_some_iff_getElem]
  rw [List.getD_eq_getElem?_getD, List.getElem?_eq_getElem hi, Option.getD_some] at h
  refine ⟨hi, by simpa using h, fun j hji => ?_⟩
  have := hj j hji
  rw [List.getD_eq_getElem?_getD, List.getElem?_eq_getElem (by omega), Option.getD_some] at this
  simpa using this
theorem bs_toList (l : W8) : (bs l).toList = l := by rw [Lib.toList_data, bs_data]

theorem findOp_any (x : W8) (w : World) (hE : EV w) : Calls Tryz.prog 91 #[.string (bs x)] w fun e w' => e = .returned (.int .i64 (findOp x : Nat)) ∧ Below w.heap.size w w' := by
  obtain ⟨q, hq⟩ : ∃ q, q = bs x := ⟨_, rfl⟩
  rw [← hq]
  have HQ := hide (show q.toList = x by rw [hq, bs_toList])
  have HS := hide hE.sign
  clear hq hE
  go_enter Tryz.func91, Tryz.ntmps91
  go_wp2
  go_loopw [4] (fun I w' => ∃ i : Nat, i ≤ 9 ∧ I = .int .i64 i ∧ Hid (∀ j, j < i → signW.getD j [] ≠ x) ∧ w' = w) (fun I _ => 9 - (intOf I).toNat)
  case atStart => exact ⟨0, by omega, rfl, hide (fun j hj => by omega), rfl⟩
  case round =>
    obtain ⟨i, hi, rfl, HJ, rfl⟩ := hrel
    by_cases hlt : i < 9
    · have c := HS.out i hlt
      obtain ⟨s, hs⟩ : ∃ s, s = bs (signW.getD i []) := ⟨_, rfl⟩
      rw [← hs] at c
      have HSS := hide (show s.toList = signW.getD i [] by rw [hs, bs_toList])
      clear hs
      have i1 : (0 : Int) ≤ i := by omega
      have i2 : (i : Int) < 9 := by omega
      by_cases he : s.toList = q.toList
      · have HF := hide (show findOp x = i + 1 by
          unfold findOp
          rw [find_at (i := i) (by simp [signW]; omega) (by rw [← HSS.out, he, HQ.out]) HJ.out])
        have hw1 : IntKind.i64.wrap (1 + (i : Int)) = 1 + (i : Int) := by rw [IntKind.wrap_i64]; omega
        go_wp2
        go_ret
        exact ⟨ret_int (by rw [HF.out]; omega), Below.refl _ _⟩
      · have HJ2 := hide (show ∀ j, j < i + 1 → signW.getD j [] ≠ x from fun j hj => by
          by_cases e : j = i
          · rw [e, ← HSS.out, ← HQ.out]; exact he
          · exact HJ.out j (by omega))
        have he2 : (s.toList == q.toList) = false := by simpa using he
        clear he
        go_wp2
        go_round
        case rel => exact ⟨i + 1, by omega, by go_num, HJ2, trivial⟩
        case measure => simp [intOf]; omega
    · obtain rfl : i = 9 := by omega
      have HF := hide (show findOp x = 0 by
        unfold findOp
        rw [find_none (fun j hj => HJ.out j (by simpa [signW] using hj))])
      go_wp2
      go_ret
      exact ⟨ret_int (by rw [HF.out]; rfl), Below.refl _ _⟩

theorem forms_name (i : Nat) (h : i ≤ 8) : formsArr[i * 5]? = some (.string (bs (nameW.getD i []))) := by
  rcases nine h with rfl | rfl | rfl | rfl | rfl | rfl | rfl | rfl | rfl <;> rfl
theorem findCall_any (x : W8) (w : World) : Calls Tryz.prog 78 #[.string (bs x)] w fun e w' => e = .returned (.int .i64 (findCall x)) ∧ Below w.heap.size w w' := by
  obtain ⟨q, hq⟩ : ∃ q, q = bs x := ⟨_, rfl⟩
  rw [← hq]
  have HQ := hide (show q.toList = x by rw [hq, bs_toList])
  clear hq
  have HFO := forms_any
  have hfn := forms_name
  obtain ⟨FA, hFA⟩ : ∃ a, a = formsArr := ⟨_, rfl⟩
  have hFs : FA.size = 45 := by rw [hFA]; rfl
  have hF1 : FA.all (·.oneCell') = true := by rw [hFA]; kernel_rfl
  rw [← hFA] at HFO hfn
  have HFN := hide hfn
  clear hFA hfn
  go_enter Tryz.func78, Tryz.ntmps78
  go_wp2_with (first
    | (go_at_call 48; refine (HFO _).mono ?_; rintro e X ⟨rfl, hX⟩)
    | (refine wpList_store_row rfl 104 _ _ rfl X.heap.size FA rfl rfl 104 _ (heap_alloc_new _ _) (by rw [hFs]; kernel_rfl) (by rw [hFs]; rfl) hF1 ?_; rw [World.setRow_alloc_new]; refine Hid.out ?_))
  refine hide ?_
  obtain ⟨V, hV, hB, hsz, hx⟩ := one_box X FA 104
  rw [← hV]
  clear hV
  have HB := hide (below_next hX hB)
  have HX := hide hx
  clear hx
  go_wp2
  go_loopw [6] (fun I w' => ∃ i : Nat, i ≤ 9 ∧ I = .int .i64 i ∧ Hid (∀ j, j < i → nameW.getD j [] ≠ x) ∧ w' = V) (fun I _ => 9 - (intOf I).toNat)
  case atStart => exact ⟨0, by omega, rfl, hide (fun j hj => by omega), rfl⟩
  case round =>
    obtain ⟨i, hi, rfl, HJ, rfl⟩ := hrel
    by_cases hlt : i < 9
    · have c := (HX.out (i * 5)).trans (HFN.out i (by omega))
      obtain ⟨s, hs⟩ : ∃ s, s = bs (nameW.getD i []) := ⟨_, rfl⟩
      rw [← hs] at c
      have HSS := hide (show s.toList = nameW.getD i [] by rw [hs, bs_toList])
      clear hs
      have i1 : (0 : Int) ≤ i := by omega
      have i2 : (i : Int) < 9 := by omega
      by_cases he : s.toList = q.toList
      · have HF := hide (show findCall x = i by
          unfold findCall
          rw [find_at (i := i) (by simp [nameW]; omega) (by rw [← HSS.out, he, HQ.out]) HJ.out])
        go_wp2
        go_ret
        exact ⟨ret_int (by rw [HF.out]), HB.out⟩
      · have HJ2 := hide (show ∀ j, j < i + 1 → nameW.getD j [] ≠ x from fun j hj => by
          by_cases e : j = i
          · rw [e, ← HSS.out, ← HQ.out]; exact he
          · exact HJ.out j (by omega))
        have he2 : (s.toList == q.toList) = false := by simpa using he
        clear he
        go_wp2
        go_round
        case rel => exact ⟨i + 1, by omega, by go_num, HJ2, trivial⟩
        case measure => simp [intOf]; omega
    · obtain rfl : i = 9 := by omega
      have HF := hide (show findCall x = -1 by
        unfold findCall
        rw [find_none (fun j hj => HJ.out j (by simpa [nameW] using hj))])
      go_wp2
      go_ret
      exact ⟨ret_int (by rw [HF.out]), HB.out⟩
end Go.Proofs.YtkogafponpjdnaaGreatDoor
