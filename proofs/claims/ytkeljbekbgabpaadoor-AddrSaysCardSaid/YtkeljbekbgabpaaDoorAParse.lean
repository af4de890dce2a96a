/- addr.Parse. -/
import Derived.Test.YtkeljbekbgabpaaDoorASplit
namespace Go.Proofs.YtkeljbekbgabpaaDoor
open Go.RowKit

def parseV : Option (Nat × Nat × Nat × Nat) → Value
  | none => .tuple #[netV 0 0 0 0, .iface 23 (.int .i64 4)]
  | some (ip, b, lo, hi) => .tuple #[netV ip b lo hi, .nilIface]

abbrev netC (ip b lo hi : Nat) : Array Value := #[.int .u32 ip, .int .i64 b, .int .i64 lo, .int .i64 hi]
theorem size_net : (Tryd.prog.info? 39).map (·.size) = some 4 := by kernel_rfl

/-- A net and a word handed back, the net out of its block. -/
theorem results_net {fn : Func} {p u : Tmp} (h : fn.results = #[.cell p 39, .tmp u]) (tmps : Array Value) (w : World) (g ip b lo hi : Nat) (v : Value)
    (hp : tmps.getD p undef = .pointer (some ⟨g, 0, none⟩)) (hv : tmps.getD u undef = v) (hg : w.heap[g]? = some (.cells (netC ip b lo hi) 39 (0, 0))) :
    (results fn tmps).run Tryd.prog w = .ok (.tuple #[netV ip b lo hi, v]) w := by
  rw [results_cell_tmp h, hp, hv]
  have hl := run_loadVar_row (P := Tryd.prog) w g 39 39 (netC ip b lo hi) (0, 0) _ hg Tryd.underlying39 rfl size_net
  simp [asAddr, hl]

/-- The world in the midst of Parse. -/
def NW (W : World) (ns : List Nat) (ip b lo hi m : Nat) : World := ((W.alloc (.cells (padN ns) 61)).alloc (.cells (netC ip b lo hi) 39)).drewN m
theorem NW_old (W : World) (ns : List Nat) (ip b lo hi m g : Nat) (hg : g < W.heap.size) : (NW W ns ip b lo hi m).heap[g]? = W.heap[g]? := by
  show ((W.alloc _).alloc _).heap[g]? = _
  rw [show ((W.alloc (.cells (padN ns) 61)).alloc (.cells (netC ip b lo hi) 39)).heap[g]? = (W.alloc (.cells (padN ns) 61)).heap[g]? from Go.heap_alloc_old _ _ (h := by simp; omega)]
  exact Go.heap_alloc_old _ _ (h := hg)
theorem NW_nums (W : World) (ns : List Nat) (ip b lo hi m : Nat) : (NW W ns ip b lo hi m).heap[W.heap.size]? = some (.cells (padN ns) 61 (0, 0)) := heap_alloc2_old W _ _
theorem NW_net (W : World) (ns : List Nat) (ip b lo hi m : Nat) : (NW W ns ip b lo hi m).heap[W.heap.size + 1]? = some (.cells (netC ip b lo hi) 39 (0, 0)) := heap_alloc2_new W _ _
theorem NW_num (W : World) (ns : List Nat) (ip b lo hi m k : Nat) (hk : k < 7) : (NW W ns ip b lo hi m).cell? ⟨W.heap.size, k, none⟩ = some (.int .i64 (ns.getD k 0)) := by
  rw [cell_of_row _ _ k _ _ _ (NW_nums W ns ip b lo hi m), padN_get ns k hk]
theorem NW_row (W : World) (ns : List Nat) (ip b lo hi m ip' b' lo' hi' : Nat) : (NW W ns ip b lo hi m).setRow (W.heap.size + 1) (netC ip' b' lo' hi') = NW W ns ip' b' lo' hi' m := by
  have h := World.setRow_alloc_new (W.alloc (.cells (padN ns) 61)) (netC ip b lo hi) (netC ip' b' lo' hi') 39
  rw [show (W.alloc (.cells (padN ns) 61)).heap.size = W.heap.size + 1 by simp] at h
  exact congrArg (World.drewN · m) h
theorem NW_c0 (W : World) (ns : List Nat) (ip b lo hi m : Nat) : (NW W ns ip b lo hi m).cell? ⟨W.heap.size + 1, 0, none⟩ = some (.int .u32 ip) := cell_of_row _ _ 0 _ _ _ (NW_net W ns ip b lo hi m)
theorem NW_c1 (W : World) (ns : List Nat) (ip b lo hi m : Nat) : (NW W ns ip b lo hi m).cell? ⟨W.heap.size + 1, 1, none⟩ = some (.int .i64 b) := cell_of_row _ _ 1 _ _ _ (NW_net W ns ip b lo hi m)
theorem NW_c2 (W : World) (ns : List Nat) (ip b lo hi m : Nat) : (NW W ns ip b lo hi m).cell? ⟨W.heap.size + 1, 2, none⟩ = some (.int .i64 lo) := cell_of_row _ _ 2 _ _ _ (NW_net W ns ip b lo hi m)
theorem NW_c3 (W : World) (ns : List Nat) (ip b lo hi m : Nat) : (NW W ns ip b lo hi m).cell? ⟨W.heap.size + 1, 3, none⟩ = some (.int .i64 hi) := cell_of_row _ _ 3 _ _ _ (NW_net W ns ip b lo hi m)
theorem NW_fro (W : World) (ns : List Nat) (ip b lo hi m k : Nat) : (NW W ns ip b lo hi m).frozen? ⟨W.heap.size + 1, k, none⟩ = false := frozen_of_row _ _ k _ _ (NW_net W ns ip b lo hi m)
theorem NW_s0 (W : World) (ns : List Nat) (ip b lo hi m x : Nat) : (NW W ns ip b lo hi m).setCell ⟨W.heap.size + 1, 0, none⟩ (.int .u32 x) = NW W ns x b lo hi m := by
  rw [setCell_eq_setRow _ _ 0 _ _ _ _ (NW_net W ns ip b lo hi m)]; exact NW_row W ns ip b lo hi m x b lo hi
theorem NW_s1 (W : World) (ns : List Nat) (ip b lo hi m x : Nat) : (NW W ns ip b lo hi m).setCell ⟨W.heap.size + 1, 1, none⟩ (.int .i64 x) = NW W ns ip x lo hi m := by
  rw [setCell_eq_setRow _ _ 1 _ _ _ _ (NW_net W ns ip b lo hi m)]; exact NW_row W ns ip b lo hi m ip x lo hi
theorem NW_s2 (W : World) (ns : List Nat) (ip b lo hi m x : Nat) : (NW W ns ip b lo hi m).setCell ⟨W.heap.size + 1, 2, none⟩ (.int .i64 x) = NW W ns ip b x hi m := by
  rw [setCell_eq_setRow _ _ 2 _ _ _ _ (NW_net W ns ip b lo hi m)]; exact NW_row W ns ip b lo hi m ip b x hi
theorem NW_s3 (W : World) (ns : List Nat) (ip b lo hi m x : Nat) : (NW W ns ip b lo hi m).setCell ⟨W.heap.size + 1, 3, none⟩ (.int .i64 x) = NW W ns ip b lo x m := by
  rw [setCell_eq_setRow _ _ 3 _ _ _ _ (NW_net W ns ip b lo hi m)]; exact NW_row W ns ip b lo hi m ip b lo x
theorem NW_drewN (W : World) (ns : List Nat) (ip b lo hi m n : Nat) : (NW W ns ip b lo hi m).drewN n = NW W ns ip b lo hi (m + n) := by unfold NW; rw [World.drewN_drewN]
theorem NW_start (W : World) (ns : List Nat) : NW W ns 0 0 0 0 0 = (W.alloc (.cells (padN ns) 61)).alloc (.cells (netC 0 0 0 0) 39) := World.drewN_zero _
theorem NW_below (W : World) (ns : List Nat) (ip b lo hi m : Nat) : Below W.heap.size W (NW W ns ip b lo hi m) := below_drewN' (((Below.refl _ _).alloc (Nat.le_refl _) _).alloc (by simp) _) m
theorem NW_drew (W : World) (ns : List Nat) (ip b lo hi m : Nat) : (NW W ns ip b lo hi m).drew = NW W ns ip b lo hi (m + 1) := NW_drewN W ns ip b lo hi m 1
attribute [local go_sem] NW_drew NW_num NW_c0 NW_c1 NW_c2 NW_c3 NW_fro NW_s0 NW_s1 NW_s2 NW_s3 NW_drewN

/-- A net laid cell by cell into the result's block. -/
theorem res_start {X : World} {g : Nat} (hX : X.heap[g]? = some (.cells (netC 0 0 0 0) 39 (0, 0))) :
    X.cell? ⟨g, 0, none⟩ = some (.int .u32 0) ∧ (∀ k, X.frozen? ⟨g, k, none⟩ = false) ∧ (∀ a, X.setCell ⟨g, 0, none⟩ (.int .u32 a) = X.setRow g #[.int .u32 a, .int .i64 0, .int .i64 0, .int .i64 0]) :=
  ⟨cell_of_row _ _ 0 _ _ _ hX, fun k => frozen_of_row _ _ k _ _ hX, fun _ => setCell_eq_setRow _ _ 0 _ _ _ _ hX⟩
theorem setRow_twice (X : World) (g : Nat) (c0 c1 c2 : Array Value) (hX : X.heap[g]? = some (.cells c0 39 (0, 0))) : (X.setRow g c1).setRow g c2 = X.setRow g c2 := by
  have hg := (Array.getElem?_eq_some_iff.1 hX).1
  unfold World.setRow
  congr 1
  apply Array.ext_getElem?
  intro j
  simp only [Array.getElem?_modify]
  by_cases h : g = j
  · subst h
    simp [hX]
  · simp [h]
theorem res_row {X : World} {g : Nat} {c0 : Array Value} (hX : X.heap[g]? = some (.cells c0 39 (0, 0))) :
    (∀ cs k, (X.setRow g cs).cell? ⟨g, k, none⟩ = cs[k]?) ∧ (∀ cs k, (X.setRow g cs).frozen? ⟨g, k, none⟩ = false) ∧ (∀ cs k v, (X.setRow g cs).setCell ⟨g, k, none⟩ v = X.setRow g (cs.setIfInBounds k v)) :=
  ⟨fun cs k => cell_of_row _ _ k _ _ _ (setRow_heap _ _ _ cs _ _ hX), fun cs k => frozen_of_row _ _ k _ _ (setRow_heap _ _ _ cs _ _ hX), fun cs k v => by
    rw [setCell_eq_setRow _ _ k _ _ _ _ (setRow_heap _ _ _ cs _ _ hX), setRow_twice X g c0 _ _ hX]⟩

def ipP (ns : List Nat) : Nat → Nat
  | 0 => 0
  | k + 1 => ipP ns k * 256 + ns.getD k 0
theorem ipP_succ (ns : List Nat) (k : Nat) : ipP ns (k + 1) = ipP ns k * 256 + ns.getD k 0 := rfl

theorem alloc_old (W : World) (o : Obj) (g : Nat) (hg : g < W.heap.size) : (W.alloc o).heap[g]? = W.heap[g]? := Go.heap_alloc_old _ _ (h := hg)
theorem ipP_or (ns : List Nat) (k : Nat) (hk : k < 4) (hip : ipP ns k < 256 ^ k) (hb : ns.getD k 0 ≤ 255) : bits .or .u32 ((ipP ns k : Int) * 256 % 4294967296) (ns.getD k 0 : Int) = ((ipP ns (k + 1) : Nat) : Int) := by
  have h3 : ipP ns k < 16777216 := Nat.lt_of_lt_of_le hip (Nat.pow_le_pow_right (n := 256) (j := 3) (by decide) (by omega))
  rw [show (ipP ns k : Int) * 256 % 4294967296 = (ipP ns k : Int) * 256 by omega, u32_or8 _ _ h3 (by omega)]
  rfl
theorem parse_big {s : List UInt8} {ns : List Nat} (hs : splitN signsL s = some ns) (k : Nat) (hk : k < 4) (hb : ¬ ns.getD k 0 ≤ 255) : parseR s = none := by
  obtain ⟨hlen, _, _⟩ := splitN_some _ _ _ hs
  obtain ⟨a, b, c, d, e, f, g, rfl⟩ := len7 hlen
  unfold parseR
  rw [hs]
  show (if _ then _ else _) = _
  rw [if_neg]
  rintro ⟨h1, h2, h3, h4, _⟩
  match k, hk with
  | 0, _ => exact hb h1
  | 1, _ => exact hb h2
  | 2, _ => exact hb h3
  | 3, _ => exact hb h4

theorem nw_after {w W W2 : World} {ns : List Nat} {ip b lo hi m : Nat} (hwW : w.heap.size < W.heap.size) (hR : W.heap[w.heap.size]? = some (.cells (netC 0 0 0 0) 39 (0, 0)))
    (h : Below (NW W ns ip b lo hi m).heap.size (NW W ns ip b lo hi m) W2) : W2.heap[w.heap.size]? = some (.cells (netC 0 0 0 0) 39 (0, 0)) ∧ W2.heap[W.heap.size + 1]? = some (.cells (netC ip b lo hi) 39 (0, 0)) ∧ Below W.heap.size W W2 := by
  have hz : (NW W ns ip b lo hi m).heap.size = W.heap.size + 2 := by show ((W.alloc _).alloc _).heap.size = _; simp
  exact ⟨(h.block _ (by omega)).trans ((NW_old _ _ _ _ _ _ _ _ hwW).trans hR), (h.block _ (by omega)).trans (NW_net _ _ _ _ _ _ _), (NW_below _ _ _ _ _ _ _).trans (h.mono (by omega))⟩
theorem getD_lt {ns : List Nat} (h : ∀ n ∈ ns, n < 100000) (k : Nat) : ns.getD k 0 < 100000 := by
  rw [List.getD_eq_getElem?_getD]
  by_cases hk : k < ns.length
  · rw [List.getElem?_eq_getElem hk]; exact h _ (List.getElem_mem hk)
  · rw [List.getElem?_eq_none (by omega)]; exact Nat.lt_of_lt_of_le Nat.one_pos (by decide)
theorem parse_end {s : List UInt8} {ns : List Nat} (hs : splitN signsL s = some ns) (hle : ∀ j, j < 4 → ns.getD j 0 ≤ 255) :
    parseR s = if faultOf (ipP ns 4) (ns.getD 4 0) (ns.getD 5 0) (ns.getD 6 0) = 0 then some (ipP ns 4, ns.getD 4 0, ns.getD 5 0, ns.getD 6 0) else none := by
  obtain ⟨hlen, _, _⟩ := splitN_some _ _ _ hs
  obtain ⟨a, b, c, d, e, f, g, rfl⟩ := len7 hlen
  have h0 : a ≤ 255 := hle 0 (by omega)
  have h1 : b ≤ 255 := hle 1 (by omega)
  have h2 : c ≤ 255 := hle 2 (by omega)
  have h3 : d ≤ 255 := hle 3 (by omega)
  have hi : ipP [a, b, c, d, e, f, g] 4 = ipOf a b c d := by
    show (((0 * 256 + a) * 256 + b) * 256 + c) * 256 + d = ((a * 256 + b) * 256 + c) * 256 + d
    rw [Nat.zero_mul, Nat.zero_add]
  rw [hi]
  unfold parseR
  rw [hs]
  show (if _ then _ else _) = if faultOf (ipOf a b c d) (e : Nat) (f : Nat) (g : Nat) = 0 then _ else _
  by_cases hf : faultOf (ipOf a b c d) (e : Nat) (f : Nat) (g : Nat) = 0
  · rw [if_pos ⟨h0, h1, h2, h3, hf⟩, if_pos hf]; rfl
  · rw [if_neg (fun h => hf h.2.2.2.2), if_neg hf]

theorem aparse_any (s : ByteArray) (hs : s.size < 4294967296) (w : World) :
    Calls Tryd.prog 18 #[.string s] w fun e w' => e = .returned (parseV (parseR s.data.toList)) ∧ Below w.heap.size w w' := by
  go_enter Tryd.func18, Tryd.ntmps18
  go_wp2_with (go_at_call 29; refine (split_any s hs _).mono ?_; rintro e W ⟨⟨ns, ok, rfl, hsp⟩, hW⟩; have HSP := hide hsp; clear hsp; refine Hid.out ?_)
  refine hide ?_
  have hwW : w.heap.size < W.heap.size := by have := hW.size; simp at this; omega
  have hR : W.heap[w.heap.size]? = some (.cells (netC 0 0 0 0) 39 (0, 0)) := (hW.block _ (by simp)).trans (heap_alloc_new w _)
  have HW := hide (show Below w.heap.size w W from ((Below.refl w.heap.size w).alloc (Nat.le_refl _) _).trans (hW.mono (by simp)))
  clear hW
  cases ok with
  | false =>
    have HV := hide (show parseR s.data.toList = none by unfold parseR; rw [HSP.out]; rfl)
    have hR2 : (W.alloc (.cells (padN ns) 61)).heap[w.heap.size]? = some (.cells (netC 0 0 0 0) 39 (0, 0)) := (alloc_old _ _ _ hwW).trans hR
    obtain ⟨r1, r2, r3⟩ := res_start hR2
    obtain ⟨r4, r5, r6⟩ := res_row hR2
    go_wp2_with (first
      | (refine wpList_store_row rfl 61 _ _ rfl W.heap.size (padN ns) rfl rfl 61 (padN []) (heap_alloc_new _ _) size_arr7 rfl (padN_one ns) ?_; rw [World.setRow_alloc_new])
      | (refine bodyPost_ret (results_net rfl _ _ w.heap.size 0 0 0 0 (.iface 23 (.int .i64 4)) rfl rfl (setRow_heap _ _ _ _ _ _ hR2)) rfl ⟨?_, ?_⟩; (· rw [HV.out]; rfl); (· exact below_setRow (HW.out.alloc (by omega) _) (Nat.le_refl _) _)))
  | true =>
    have hsp : splitN signsL s.data.toList = some ns := HSP.out
    obtain ⟨hlen, hmem, _⟩ := splitN_some _ _ _ hsp
    go_wp2_with (refine wpList_store_row rfl 61 _ _ rfl W.heap.size (padN ns) rfl rfl 61 (padN []) (heap_alloc_new _ _) size_arr7 rfl (padN_one ns) ?_; rw [World.setRow_alloc_new])
    go_loopw [17] (fun i w' => ∃ k m : Nat, k ≤ 4 ∧ i = .int .i64 k ∧ w' = NW W ns (ipP ns k) 0 0 0 m ∧ (∀ j, j < k → ns.getD j 0 ≤ 255) ∧ ipP ns k < 256 ^ k) (fun i _ => 4 - (intOf i).toNat)
    case atStart => exact ⟨0, 0, by omega, rfl, (NW_start W ns).symm, fun j hj => by omega, Nat.one_pos⟩
    case round =>
      obtain ⟨k, m, hk, rfl, rfl, hle, hip⟩ := hrel
      by_cases hlt : k < 4
      · obtain ⟨nk, hnk⟩ : ∃ nk, nk = ns.getD k 0 := ⟨_, rfl⟩
        have hN : ∀ m, (NW W ns (ipP ns k) 0 0 0 m).cell? ⟨W.heap.size, k, none⟩ = some (.int .i64 nk) := fun m => by rw [hnk]; exact NW_num W ns (ipP ns k) 0 0 0 m k (by omega)
        by_cases hb : ns.getD k 0 ≤ 255
        · have HE := ipP_or ns k hlt hip hb
          have hip2 : ipP ns (k + 1) < 256 ^ (k + 1) := by rw [ipP_succ, Nat.pow_succ]; omega
          rw [← hnk] at HE hb
          have HK := hide hnk
          clear hnk
          go_wp2
          go_region
          go_wp2
          go_round
          case rel => exact ⟨k + 1, m + 1, by omega, by go_num, rfl, fun j hj => by
            rcases Nat.lt_or_ge j k with h | h
            · exact hle j h
            · rw [show j = k by omega, ← HK.out]; exact hb, hip2⟩
          case measure => simp [intOf]; omega
        · have HV := hide (show parseR s.data.toList = none from parse_big hsp k hlt hb)
          rw [← hnk] at hb
          clear hnk
          have hR2 : (NW W ns (ipP ns k) 0 0 0 m).heap[w.heap.size]? = some (.cells (netC 0 0 0 0) 39 (0, 0)) := (NW_old _ _ _ _ _ _ _ _ hwW).trans hR
          obtain ⟨r1, r2, r3⟩ := res_start hR2
          obtain ⟨r4, r5, r6⟩ := res_row hR2
          go_wp2_with (first
            | (refine bodyPost_ret (results_net rfl _ _ w.heap.size 0 0 0 0 (.iface 23 (.int .i64 4)) rfl rfl (setRow_heap _ _ _ _ _ _ hR2)) rfl ⟨?_, ?_⟩; (· rw [HV.out]; rfl); (· exact below_setRow (HW.out.trans ((NW_below _ _ _ _ _ _ _).mono (by omega))) (Nat.le_refl _) _)))
      · obtain rfl : k = 4 := by omega
        obtain ⟨n4, h4⟩ : ∃ n, n = ns.getD 4 0 := ⟨_, rfl⟩
        obtain ⟨n5, h5⟩ : ∃ n, n = ns.getD 5 0 := ⟨_, rfl⟩
        obtain ⟨n6, h6⟩ : ∃ n, n = ns.getD 6 0 := ⟨_, rfl⟩
        obtain ⟨ip, h7⟩ : ∃ n, n = ipP ns 4 := ⟨_, rfl⟩
        have HP := hide (parse_end hsp hle)
        have hN4 : ∀ a b c d m, (NW W ns a b c d m).cell? ⟨W.heap.size, 4, none⟩ = some (.int .i64 n4) := fun a b c d m => by rw [h4]; exact NW_num W ns a b c d m 4 (by omega)
        have hN5 : ∀ a b c d m, (NW W ns a b c d m).cell? ⟨W.heap.size, 5, none⟩ = some (.int .i64 n5) := fun a b c d m => by rw [h5]; exact NW_num W ns a b c d m 5 (by omega)
        have hN6 : ∀ a b c d m, (NW W ns a b c d m).cell? ⟨W.heap.size, 6, none⟩ = some (.int .i64 n6) := fun a b c d m => by rw [h6]; exact NW_num W ns a b c d m 6 (by omega)
        have hip4 : ip < 4294967296 := by rw [h7]; exact hip
        have l4 : n4 < 100000 := by rw [h4]; exact getD_lt hmem 4
        have l5 : n5 < 100000 := by rw [h5]; exact getD_lt hmem 5
        have l6 : n6 < 100000 := by rw [h6]; exact getD_lt hmem 6
        rw [← h4, ← h5, ← h6, ← h7] at HP
        rw [← h7]
        clear h4 h5 h6 h7 hip hle hsp
        by_cases hf : faultOf ip n4 n5 n6 = 0
        · have HV := hide (show parseR s.data.toList = some (ip, n4, n5, n6) by rw [HP.out, if_pos hf])
          have HE := hide (show errV (faultOf ip n4 n5 n6) = .nilIface by rw [hf]; rfl)
          clear hf
          go_wp2
          go_region
          go_wp2_with (go_at_call 14; refine (acheck_any ip hip4 n4 n5 n6 ⟨by omega, by omega⟩ ⟨by omega, by omega⟩ ⟨by omega, by omega⟩ _).mono ?_; rw [HE.out]; rintro e W2 ⟨rfl, hW2⟩; obtain ⟨hR2, hN2, hB2⟩ := nw_after hwW hR hW2; clear hW2; obtain ⟨r1, r2, r3⟩ := res_start hR2; obtain ⟨r4, r5, r6⟩ := res_row hR2; have c0 := cell_of_row _ _ 0 _ _ _ hN2; have c1 := cell_of_row _ _ 1 _ _ _ hN2; have c2 := cell_of_row _ _ 2 _ _ _ hN2; have c3 := cell_of_row _ _ 3 _ _ _ hN2; refine Hid.out ?_)
          refine hide ?_
          go_wp2_with (refine bodyPost_ret (results_net rfl _ _ w.heap.size ip n4 n5 n6 .nilIface rfl rfl (setRow_heap _ _ _ _ _ _ hR2)) rfl ⟨?_, ?_⟩; (· rw [HV.out]; rfl); (· exact below_setRow (HW.out.trans (hB2.mono (by omega))) (Nat.le_refl _) _))
        · have HV := hide (show parseR s.data.toList = none by rw [HP.out, if_neg hf])
          have HE := hide (show errV (faultOf ip n4 n5 n6) = .iface 23 (.int .i64 (faultOf ip n4 n5 n6 : Nat)) by unfold errV; rw [if_neg hf])
          clear hf
          go_wp2
          go_region
          go_wp2_with (go_at_call 14; refine (acheck_any ip hip4 n4 n5 n6 ⟨by omega, by omega⟩ ⟨by omega, by omega⟩ ⟨by omega, by omega⟩ _).mono ?_; rw [HE.out]; rintro e W2 ⟨rfl, hW2⟩; obtain ⟨hR2, hN2, hB2⟩ := nw_after hwW hR hW2; clear hW2; obtain ⟨r1, r2, r3⟩ := res_start hR2; obtain ⟨r4, r5, r6⟩ := res_row hR2; refine Hid.out ?_)
          refine hide ?_
          go_wp2_with (refine bodyPost_ret (results_net rfl _ _ w.heap.size 0 0 0 0 (.iface 23 (.int .i64 4)) rfl rfl (setRow_heap _ _ _ _ _ _ hR2)) rfl ⟨?_, ?_⟩; (· rw [HV.out]; rfl); (· exact below_setRow (HW.out.trans (hB2.mono (by omega))) (Nat.le_refl _) _))
end Go.Proofs.YtkeljbekbgabpaaDoor
