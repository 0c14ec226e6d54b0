/-
  What the search for a node gives.
-/
import Derived.Test.YtcpegipojkbcoaaSpotL
import Derived.Test.YtcpegipojkbcoaaSh6
import Derived.WalkMore
namespace Go.Proofs.Ytcpegipojkbcoaa
open Go.RowKit Go.Shelf
attribute [local go_sem] Oper.semAt_some
set_option linter.unusedVariables false
set_option linter.unusedSimpArgs false
namespace LW
open Words
/-- The cells of where a node stands. -/
def stC (r : Int) (at_ q b : Nat) : Array Value := #[.int .i64 r, .int .u64 at_, .int .u64 q, .int .u64 b]
/-- There is such a node. -/
abbrev Has (R : List Nat) (r : Int) (at_ : Nat) : Prop := 0 ≤ r ∧ r < (R.length : Int) ∧ at_ < R.getD r.toNat 0
/-- What lies below a row. -/
def blw (n : Nat) (R : List Nat) (r : Int) : Nat := if r = 0 then n else R.getD (r.toNat - 1) 0
/-- What the search hands back. -/
def fdR (n : Nat) (R : List Nat) (r : Int) (at_ : Nat) : Value :=
  if Has R r at_ then .tuple #[.agg (stC r at_ (R.getD r.toNat 0) (blw n R r)), .int .i64 0] else .tuple #[.agg (stC 0 0 0 0), .int .i64 6]
theorem blk_other {w : World} {g h i : Nat} {o : Obj} {u : Value} (hh : w.heap[h]? = some o) (hne : h ≠ g) : (w.setCell ⟨g, i, none⟩ u).heap[h]? = some o := by
  rw [Below.heap_setCell _ _ _ h hne]
  exact hh
/-- Five new blocks. -/
theorem five (w : World) (o0 o1 o2 o3 o4 : Obj) : ∃ W, ((((w.alloc o0).alloc o1).alloc o2).alloc o3).alloc o4 = W ∧ W.heap[w.heap.size]? = some o0 ∧ W.heap[w.heap.size + 1]? = some o1 ∧ W.heap[w.heap.size + 2]? = some o2 ∧ W.heap[w.heap.size + 3]? = some o3 ∧ W.heap[w.heap.size + 4]? = some o4 ∧ W.heap.size = w.heap.size + 5 ∧ Below w.heap.size w W := by
  refine ⟨_, rfl, ?_, ?_, ?_, ?_, ?_, by simp, ?_⟩
  · exact blk_alloc (blk_alloc (blk_alloc (blk_alloc (heap_alloc_new w o0))))
  · have := heap_alloc_new (w.alloc o0) o1
    rw [World.size_alloc] at this
    exact blk_alloc (blk_alloc (blk_alloc this))
  · have := heap_alloc_new ((w.alloc o0).alloc o1) o2
    simp only [World.size_alloc] at this
    exact blk_alloc (blk_alloc this)
  · have := heap_alloc_new (((w.alloc o0).alloc o1).alloc o2) o3
    simp only [World.size_alloc] at this
    exact blk_alloc this
  · have := heap_alloc_new ((((w.alloc o0).alloc o1).alloc o2).alloc o3) o4
    simp only [World.size_alloc] at this
    exact this
  · exact (((((Below.refl _ w).alloc (Nat.le_refl _) _).alloc (by simp) _).alloc (by simp; omega) _).alloc (by simp; omega) _).alloc (by simp; omega) _
/-- The search's own blocks: the row, the place, what it hands back, the error, where it stands, and the iterator's. -/
def FB (B : Nat) (T : Tr) (n m : Nat) (r : Int) (at_ : Nat) (s3 s4 s5 : Array Value) (W : World) : Prop :=
  W.heap[B + 1]? = some (.cells #[.int .i64 r] 3 (0, 0)) ∧ W.heap[B + 2]? = some (.cells #[.int .u64 at_] 27 (0, 0)) ∧ W.heap[B + 3]? = some (.cells s3 100 (0, 0)) ∧ W.heap[B + 4]? = some (.cells s4 28 (0, 0)) ∧ W.heap[B + 5]? = some (.cells s5 100 (0, 0)) ∧ W.heap[B + 6]? = some (.cells (lyC T n m) 98 (0, 0))
theorem blk_kept {W W' : World} {row : Option Nat} {g : Nat} {cs : Array Value} {t : TypeId} (h : W.heap[g]? = some (.cells cs t (0, 0))) (hg : W.grownBy W' row) (hr : ∀ r, row = some r → ∃ o : Obj, W.heap[r]? = some o ∧ o.isCells = false) : W'.heap[g]? = some (.cells cs t (0, 0)) :=
  (hg.block g (blk_lt h) (fun e => by obtain ⟨o, ho, hc⟩ := hr g e.symm; rw [h] at ho; cases ho; cases hc)).trans h
theorem FB.kept {B : Nat} {T : Tr} {n m : Nat} {r : Int} {at_ : Nat} {s3 s4 s5 : Array Value} {W W' : World} {row : Option Nat} (h : FB B T n m r at_ s3 s4 s5 W) (hg : W.grownBy W' row) (hr : ∀ r, row = some r → ∃ o : Obj, W.heap[r]? = some o ∧ o.isCells = false) : FB B T n m r at_ s3 s4 s5 W' :=
  ⟨blk_kept h.1 hg hr, blk_kept h.2.1 hg hr, blk_kept h.2.2.1 hg hr, blk_kept h.2.2.2.1 hg hr, blk_kept h.2.2.2.2.1 hg hr, blk_kept h.2.2.2.2.2 hg hr⟩
theorem FB.set3 {B : Nat} {T : Tr} {n m : Nat} {r : Int} {at_ : Nat} {s3 s4 s5 : Array Value} {W : World} (h : FB B T n m r at_ s3 s4 s5 W) (i : Nat) (u : Value) : FB B T n m r at_ (s3.setIfInBounds i u) s4 s5 (W.setCell ⟨B + 3, i, none⟩ u) :=
  ⟨blk_other h.1 (by omega), blk_other h.2.1 (by omega), blk_set h.2.2.1, blk_other h.2.2.2.1 (by omega), blk_other h.2.2.2.2.1 (by omega), blk_other h.2.2.2.2.2 (by omega)⟩
theorem FB.set4 {B : Nat} {T : Tr} {n m : Nat} {r : Int} {at_ : Nat} {s3 s4 s5 : Array Value} {W : World} (h : FB B T n m r at_ s3 s4 s5 W) (i : Nat) (u : Value) : FB B T n m r at_ s3 (s4.setIfInBounds i u) s5 (W.setCell ⟨B + 4, i, none⟩ u) :=
  ⟨blk_other h.1 (by omega), blk_other h.2.1 (by omega), blk_other h.2.2.1 (by omega), blk_set h.2.2.2.1, blk_other h.2.2.2.2.1 (by omega), blk_other h.2.2.2.2.2 (by omega)⟩
theorem FB.set5 {B : Nat} {T : Tr} {n m : Nat} {r : Int} {at_ : Nat} {s3 s4 s5 : Array Value} {W : World} (h : FB B T n m r at_ s3 s4 s5 W) (i : Nat) (u : Value) : FB B T n m r at_ s3 s4 (s5.setIfInBounds i u) (W.setCell ⟨B + 5, i, none⟩ u) :=
  ⟨blk_other h.1 (by omega), blk_other h.2.1 (by omega), blk_other h.2.2.1 (by omega), blk_other h.2.2.2.1 (by omega), blk_set h.2.2.2.2.1, blk_other h.2.2.2.2.2 (by omega)⟩
theorem cell1 {w : World} {b : Nat} {t : TypeId} {v0 : Value} (h : w.heap[b]? = some (.cells #[v0] t (0, 0))) : w.cell? ⟨b, 0, none⟩ = some v0 ∧ w.frozen? ⟨b, 0, none⟩ = false := by
  simp [World.cell?, World.frozen?, h]
theorem cells4 {w : World} {b : Nat} {t : TypeId} {v0 v1 v2 v3 : Value} (h : w.heap[b]? = some (.cells #[v0, v1, v2, v3] t (0, 0))) :
    (w.cell? ⟨b, 0, none⟩ = some v0 ∧ w.cell? ⟨b, 1, none⟩ = some v1 ∧ w.cell? ⟨b, 2, none⟩ = some v2 ∧ w.cell? ⟨b, 3, none⟩ = some v3) ∧ w.frozen? ⟨b, 0, none⟩ = false ∧ w.frozen? ⟨b, 1, none⟩ = false ∧ w.frozen? ⟨b, 2, none⟩ = false ∧ w.frozen? ⟨b, 3, none⟩ = false := by
  simp [World.cell?, World.frozen?, h]
/-- What lies below, when so many rows have come. -/
def lst (n : Nat) (pre : List (Nat × Nat)) : Nat := (pre.getLast?.map Prod.snd).getD n
theorem en_get : ∀ (R : List Nat) (k i : Nat), i < R.length → (en k R)[i]? = some (k + i, R.getD i 0)
  | [], _, _, h => by simp at h
  | x :: R, k, 0, _ => by simp [en]
  | x :: R, k, i + 1, h => by
    simp only [List.length_cons] at h
    rw [en, List.getElem?_cons_succ, en_get R (k + 1) i (by omega), List.getD_cons_succ]
    rw [show k + 1 + i = k + (i + 1) by omega]
theorem pre_spec {R : List Nat} {pr : List (Nat × Nat)} {x : Nat × Nat} (h : pr ++ [x] <+: en 0 R) : pr.length < R.length ∧ x = (pr.length, R.getD pr.length 0) ∧ ∀ i, i < pr.length → pr[i]? = some (i, R.getD i 0) := by
  obtain ⟨t, ht⟩ := h
  have hl : pr.length < R.length := by
    have := congrArg List.length ht
    rw [en_len] at this
    simp at this
    omega
  refine ⟨hl, ?_, ?_⟩
  · have h1 := en_get R 0 pr.length hl
    rw [← ht] at h1
    simp at h1
    simpa using h1
  · intro i hi
    have h1 := en_get R 0 i (by omega)
    rw [← ht, List.append_assoc, List.getElem?_append_left hi] at h1
    simpa using h1
theorem lst_spec {R : List Nat} {n : Nat} {pr : List (Nat × Nat)} (h : ∀ i, i < pr.length → pr[i]? = some (i, R.getD i 0)) : lst n pr = if pr.length = 0 then n else R.getD (pr.length - 1) 0 := by
  unfold lst
  split
  · rename_i h0
    have : pr = [] := List.length_eq_zero_iff.1 h0
    subst this
    rfl
  · rename_i h0
    rw [List.getLast?_eq_getElem?, h (pr.length - 1) (by omega)]
    rfl
theorem all_lt {R : List Nat} {r : Int} {pr : List (Nat × Nat)} (h : ∀ i, i < pr.length → pr[i]? = some (i, R.getD i 0)) (hall : ∀ y ∈ pr, (y.1 : Int) < r) (i : Nat) (hi : i < pr.length) : (i : Int) < r :=
  hall (i, R.getD i 0) (List.mem_of_getElem? (h i hi))
theorem fd_ret {R : List Nat} {n : Nat} {r : Int} {at_ : Nat} {pr : List (Nat × Nat)} {x : Nat × Nat} (h : pr ++ [x] <+: en 0 R) (h1 : (x.1 : Int) = r) (h2 : at_ < x.2) : fdR n R r at_ = .tuple #[.agg #[.int .i64 r, .int .u64 at_, .int .u64 (x.2 : Nat), .int .u64 (lst n pr : Nat)], .int .i64 0] := by
  obtain ⟨k1, rfl, k3⟩ := pre_spec h
  dsimp only at h1 h2
  subst h1
  have hh : Has R (pr.length : Int) at_ := ⟨by omega, by omega, by simpa using h2⟩
  rw [fdR, if_pos hh, lst_spec k3]
  unfold stC blw
  simp
theorem fd_exit {R : List Nat} {n : Nat} {r : Int} {at_ : Nat} {pr : List (Nat × Nat)} {x : Nat × Nat} (h : pr ++ [x] <+: en 0 R) (hall : ∀ y ∈ pr, (y.1 : Int) < r) (h1 : r ≤ (x.1 : Int)) (h2 : r < (x.1 : Int) ∨ x.2 ≤ at_) : fdR n R r at_ = .tuple #[.agg #[.int .i64 0, .int .u64 0, .int .u64 0, .int .u64 0], .int .i64 6] := by
  obtain ⟨k1, rfl, k3⟩ := pre_spec h
  dsimp only at h1 h2
  have hh : ¬ Has R r at_ := by
    rintro ⟨g1, g2, g3⟩
    have ha := all_lt k3 hall (pr.length - 1)
    have : r = (pr.length : Int) := by omega
    rw [this, Int.toNat_natCast] at g3
    omega
  rw [fdR, if_neg hh]
  rfl
theorem fd_done {R : List Nat} {n : Nat} {r : Int} {at_ : Nat} (hall : ∀ y ∈ en 0 R, (y.1 : Int) < r) (hne : 0 < R.length) : fdR n R r at_ = .tuple #[.agg #[.int .i64 0, .int .u64 0, .int .u64 0, .int .u64 0], .int .i64 6] := by
  have h1 := hall _ (List.mem_of_getElem? (en_get R 0 (R.length - 1) (by omega)))
  dsimp only at h1
  have hh : ¬ Has R r at_ := by
    rintro ⟨g1, g2, g3⟩
    omega
  rw [fdR, if_neg hh]
  rfl
/-- Where the search ends. -/
theorem find_end {B D : Nat} {T : Tr} {n m : Nat} {r : Int} {at_ : Nat} {a0 a1 a2 a3 : Value} {s5 : Array Value} {e : Int} {w X : World} {tmps : Array Value} {Rv : Value} (hR : Rv = .tuple #[.agg #[a0, a1, a2, a3], .int .i64 e]) (hF : FB B T n m r at_ #[a0, a1, a2, a3] #[.int .i64 e] s5 X) (hK : X.heap[D]? = some (.deferred (some []))) (hB : Below B w X) (hD : B ≤ D) (hBw : B ≤ w.heap.size)
    (h6 : tmps.getD 6 undef = .pointer (some ⟨B + 3, 0, none⟩)) (h7 : tmps.getD 7 undef = .pointer (some ⟨B + 4, 0, none⟩)) :
    Exit.noGoto (bodyPostM Fence.wide 8 Try.prog Try.f55 fun e w' => e = Ending.returned Rv ∧ Below B w w') Exit.ret { tmps := tmps, defers := [{ target := .collected D, args := #[] }] } X := by
  refine ⟨by simp, .inl ⟨_, _, rfl, run_takeDeferred hK, ?_⟩⟩
  have hg := grownBy_putObj' X D (.deferred none)
  have hF2 := hF.kept hg (fun r e => by cases e; exact ⟨_, hK, rfl⟩)
  generalize X.putObj D (.deferred none) = Z at *
  have hB2 : Below B w Z := hB.grown hg (Nat.le_trans hBw hB.size) (fun k e => by cases e; exact hD)
  have hp' : tmps[6]?.getD undef = .pointer (some ⟨B + 3, 0, none⟩) := by simpa using h6
  have hq' : tmps[7]?.getD undef = .pointer (some ⟨B + 4, 0, none⟩) := by simpa using h7
  obtain ⟨hc, _⟩ := cell1 hF2.2.2.2.1
  refine ⟨.tuple #[.agg #[a0, a1, a2, a3], .int .i64 e], ?_, by rw [hR], hB2⟩
  obtain ⟨⟨e0, e1, e2, e3⟩, _⟩ := cells4 hF2.2.2.1
  simp [results, Try.results55, hp', hq', asAddr, go_sem, e0, e1, e2, e3, hc]
/-- Between two rounds. -/
def FI (B : Nat) (T : Tr) (n m : Nat) (r : Int) (at_ : Nat) (w : World) (pre : List (Nat × Nat)) (W : World) : Prop :=
  (∀ y ∈ pre, (y.1 : Int) < r) ∧ FB B T n m r at_ #[.int .i64 0, .int .u64 0, .int .u64 0, .int .u64 0] #[.int .i64 0] #[.int .i64 r, .int .u64 at_, .int .u64 0, .int .u64 (lst n pre : Nat)] W ∧ Below B w W
/-- A round has left. -/
def FX (B : Nat) (T : Tr) (n m : Nat) (r : Int) (at_ : Nat) (w : World) (c : Code) (pre : List (Nat × Nat)) (W : World) : Prop :=
  (∃ pr x, pre = pr ++ [x] ∧ (∀ y ∈ pr, (y.1 : Int) < r) ∧ ((c = .ret ∧ (x.1 : Int) = r ∧ at_ < x.2 ∧ FB B T n m r at_ #[.int .i64 r, .int .u64 at_, .int .u64 (x.2 : Nat), .int .u64 (lst n pr : Nat)] #[.int .i64 0] #[.int .i64 r, .int .u64 at_, .int .u64 (x.2 : Nat), .int .u64 (lst n pr : Nat)] W) ∨ (c = .exit 0 ∧ r ≤ (x.1 : Int) ∧ (r < (x.1 : Int) ∨ x.2 ≤ at_) ∧ FB B T n m r at_ #[.int .i64 0, .int .u64 0, .int .u64 0, .int .u64 0] #[.int .i64 0] #[.int .i64 r, .int .u64 at_, .int .u64 0, .int .u64 (lst n pr : Nat)] W))) ∧ Below B w W
theorem lst_snoc (n : Nat) (pre : List (Nat × Nat)) (x : Nat × Nat) : lst n (pre ++ [x]) = x.2 := by simp [lst]
set_option maxRecDepth 100000 in
set_option maxHeartbeats 2000000 in
theorem find (T : Tr) (n m : Nat) (hf : T.f = 0 ∨ (2 ≤ T.f ∧ T.f ≤ 255)) (hd : 2 ≤ T.dp ∧ T.dp ≤ 255) (hm : m < 18446744073709551616) (r : Int) (at_ : Nat) (w : World) : Calls Try.prog 55 #[.agg (lyC T n m), .int .i64 r, .int .u64 at_] w fun e w' => e = .returned (fdR n (m :: ab T.f T.dp (T.dp.toNat - 1) 1 m) r at_) ∧ Below w.heap.size w w' := by
  have HR := TW.hide (fun W => rows_ T n m W)
  obtain ⟨Rv, hRv⟩ : ∃ Rv, Rv = fdR n (m :: ab T.f T.dp (T.dp.toNat - 1) 1 m) r at_ := ⟨_, rfl⟩
  rw [← hRv]
  have HV := TW.hide hRv
  clear hRv
  obtain ⟨W5, hW5, n0, n1, n2, n3, n4, sz5, hb5⟩ := five w (.cells (lyC T n m) 98) (.cells #[.int .i64 r] 3) (.cells #[.int .u64 at_] 27) (.cells #[.int .i64 0, .int .u64 0, .int .u64 0, .int .u64 0] 100) (.cells #[.int .i64 0] 28)
  unfold lyC at n0 hW5 HR
  unfold lyC
  refine (callsIn_wide (n := 8)).1 ?_
  refine callsIn_of_wp_marks Try.func55 rfl trivial ?_ rfl
  simp only [Try.ntmps55, List.size_toArray, List.length_cons, List.length_nil, Nat.reduceAdd, Nat.reduceSub, Array.replicate_succ, Array.replicate_zero, List.push_toArray, List.append_toArray, List.nil_append, List.cons_append]
  refine wpIn_wide.2 ?_
  refine wp_seq_k fun K hK => ?_
  have HK := TW.hide hK
  clear hK
  have HW5 := TW.hide hW5
  clear hW5
  go_wp2_with fail
  rw [HW5.out]
  refine HK.out _ _ ?_
  clear HK K
  clear HW5
  simp only [Nat.add_assoc, Nat.reduceAdd]
  generalize hB : w.heap.size = B at *
  have HBB := TW.hide hB
  clear hB
  obtain ⟨d1, _⟩ := cell1 n1
  obtain ⟨d2, _⟩ := cell1 n2
  obtain ⟨c0, c1, c2, c3, c4, c5, c6, c7, c8, c9, c10, _⟩ := cells11 n0
  have N0 := TW.hide n0
  have N1 := TW.hide n1
  have N2 := TW.hide n2
  have N3 := TW.hide n3
  have N4 := TW.hide n4
  have B5 := TW.hide hb5
  have S5 := TW.hide sz5
  clear n0 n1 n2 n3 n4 hb5 sz5
  apply wp_scope_straight
  refine wp_seq_k fun K hK => ?_
  have HK := TW.hide hK
  clear hK
  go_wp2_with fail
  refine HK.out _ _ ?_
  clear HK K
  clear d1 d2 c0 c1 c2 c3 c4 c5 c6 c7 c8 c9 c10
  have n5 := heap_alloc_new W5 (.cells #[.int .i64 r, .int .u64 at_, .int .u64 0, .int .u64 n] 100)
  rw [S5.out] at n5
  have N0b := TW.hide (blk_alloc (o' := .cells #[.int .i64 r, .int .u64 at_, .int .u64 0, .int .u64 n] 100) N0.out)
  have N1b := TW.hide (blk_alloc (o' := .cells #[.int .i64 r, .int .u64 at_, .int .u64 0, .int .u64 n] 100) N1.out)
  have N2b := TW.hide (blk_alloc (o' := .cells #[.int .i64 r, .int .u64 at_, .int .u64 0, .int .u64 n] 100) N2.out)
  have N3b := TW.hide (blk_alloc (o' := .cells #[.int .i64 r, .int .u64 at_, .int .u64 0, .int .u64 n] 100) N3.out)
  have N4b := TW.hide (blk_alloc (o' := .cells #[.int .i64 r, .int .u64 at_, .int .u64 0, .int .u64 n] 100) N4.out)
  have B6 := TW.hide (B5.out.alloc (by have := S5.out; omega) (.cells #[.int .i64 r, .int .u64 at_, .int .u64 0, .int .u64 n] 100))
  have S6 : Hid ((W5.alloc (.cells #[.int .i64 r, .int .u64 at_, .int .u64 0, .int .u64 n] 100)).heap.size = B + 6) := by
    show _ = _
    rw [World.size_alloc, S5.out]
  have N5b := TW.hide n5
  have HS5 := S5.out
  rw [HS5]
  clear n5 N0 N1 N2 N3 N4 B5 S5 HS5
  generalize W5.alloc _ = V at *
  refine wp_seq_k fun K hK => ?_
  have HK := TW.hide hK
  clear hK
  apply wp_label
  go_wp2
  refine HK.out _ _ ?_
  clear HK K
  refine wp_seq_k fun KR hK => ?_
  have HKR := TW.hide hK
  clear hK
  obtain ⟨c0, c1, c2, c3, c4, c5, c6, c7, c8, c9, c10, _⟩ := cells11 N0b.out
  go_wp2_with fail
  refine (HR.out _).mono ?_
  rintro e2 w2 ⟨rfl, rfl⟩
  clear HR c0 c1 c2 c3 c4 c5 c6 c7 c8 c9 c10
  rw [show V.heap.size = B + 6 from S6.out]
  go_wp2
  have b4 := B6.out.alloc (by have := S6.out; omega) (.cells (lyC T n m) 98)
  have n6 := heap_alloc_new V (.cells (lyC T n m) 98)
  rw [S6.out] at n6
  have fb : FB B T n m r at_ #[.int .i64 0, .int .u64 0, .int .u64 0, .int .u64 0] #[.int .i64 0] #[.int .i64 r, .int .u64 at_, .int .u64 0, .int .u64 n] (V.alloc (.cells (lyC T n m) 98)) :=
    ⟨blk_alloc N1b.out, blk_alloc N2b.out, blk_alloc N3b.out, blk_alloc N4b.out, blk_alloc N5b.out, n6⟩
  have s7 : (V.alloc (.cells (lyC T n m) 98)).heap.size = B + 7 := by rw [World.size_alloc, S6.out]
  have hBw : B ≤ w.heap.size := by have := HBB.out; omega
  unfold lyC at n6 b4 fb s7
  clear N0b N1b N2b N3b N4b N5b B6 S6
  generalize V.alloc _ = Z at *
  refine (wpIn_wide (n := 8)).1 ?_
  refine wpIn_rangeFunc_ownF rfl (by omega) (gf := 60) (lb := #[.pointer (some ⟨B + 6, 0, none⟩)]) rfl trivial (enters_of Try.func60 (by kernel_rfl) rfl)
    (rows_stops T n m 7 (B + 6) (by omega) hf hd hm Z n6) (fun h1 h2 => h2.trans h1) (fun W l o o' hl h1 h2 h3 => World.putObj_heap_other (by omega)) (Below.refl _ _) (fun _ => rfl)
    (FI B T n m r at_ w)
    (FX B T n m r at_ w)
    (fun s A D row hs hg hr => ⟨hs.1, hs.2.1.kept hg (fun r e => (hr r e).2), ownFrom_below (β := Unit) hBw (by omega) () A D row hs.2.2 hg hr⟩)
    (fun c s A D row hs hg hr => by
      obtain ⟨⟨pr, x, h1, h2, h3⟩, h4⟩ := hs
      refine ⟨⟨pr, x, h1, h2, ?_⟩, ownFrom_below (β := Unit) hBw (by omega) () A D row h4 hg hr⟩
      rcases h3 with ⟨k1, k2, k3, k4⟩ | ⟨k1, k2, k3, k4⟩
      · exact .inl ⟨k1, k2, k3, k4.kept hg (fun r e => (hr r e).2)⟩
      · exact .inr ⟨k1, k2, k3, k4.kept hg (fun r e => (hr r e).2)⟩)
    ⟨by simp, fb, b4⟩
    (fun x => { tmps := #[.agg #[.int .i64 T.k, .int .i64 T.d, .int .i64 T.f, .int .i64 T.dp, .int .u32 T.lf, .int .i64 T.inn, .slice T.ka T.kl T.kc, .slice T.sa T.sl T.sc, .slice T.pa T.pl T.pc, .int .u64 n, .int .u64 m], .int .i64 r, .int .u64 at_, .pointer (some ⟨B, 0, none⟩), .pointer (some ⟨B + 1, 0, none⟩), .pointer (some ⟨B + 2, 0, none⟩), .pointer (some ⟨B + 3, 0, none⟩), .pointer (some ⟨B + 4, 0, none⟩), .pointer (some ⟨B + 5, 0, none⟩), .int .i64 x.1, .int .u64 x.2, .int .i64 r, .int .u64 at_, .pointer (some ⟨B, 9, none⟩), .int .u64 n, .agg #[.int .i64 r, .int .u64 at_, .int .u64 0, .int .u64 n], .agg #[.int .i64 T.k, .int .i64 T.d, .int .i64 T.f, .int .i64 T.dp, .int .u32 T.lf, .int .i64 T.inn, .slice T.ka T.kl T.kc, .slice T.sa T.sl T.sc, .slice T.pa T.pl T.pc, .int .u64 n, .int .u64 m], .func (.func 60) #[] #[.pointer (some ⟨B + 6, 0, none⟩)], .int .i64 x.1, .int .u64 x.2, undef, undef, undef, undef, undef, undef, undef, undef, undef, undef, undef, undef, undef, undef, undef, undef, undef, undef, undef], defers := [] }) ?assign ?body ?done ?stop
  case assign =>
    intro l x W K hK
    dsimp only [enc]
    gi_wp2
    exact hK
  case body =>
    rintro l pre x W ⟨hall, hF, hB⟩ hlt
    obtain ⟨d1, _⟩ := cell1 hF.1
    obtain ⟨d2, _⟩ := cell1 hF.2.1
    obtain ⟨⟨e0, e1, e2, e3⟩, f0, f1, f2, f3⟩ := cells4 hF.2.2.1
    obtain ⟨g0, g1⟩ := cell1 hF.2.2.2.1
    obtain ⟨⟨s0, s1, s2, s3⟩, t0, t1, t2, t3⟩ := cells4 hF.2.2.2.2.1
    have HF := TW.hide hF
    have HB := TW.hide hB
    have HALL := TW.hide hall
    clear hF hB hall hlt
    by_cases hx : (x.1 : Int) < r
    · gi_wp2
      have hF2 := HF.out.set5 3 (.int .u64 (x.2 : Nat))
      refine ⟨KeepsOthers.setCell _ _ _, Below.heap_setCell _ _ _ (B + 6) (show B + 6 ≠ B + 5 by omega), ?_, ?_, HB.out.setCell (p := ⟨B + 5, 3, none⟩) (by show B ≤ B + 5; omega) _⟩
      · intro y hy
        rcases List.mem_append.1 hy with h | h
        · exact HALL.out y h
        · simp at h; subst h; exact hx
      · rw [lst_snoc]
        exact hF2
    · by_cases hx2 : r < (x.1 : Int)
      · gi_wp2
        exact ⟨KeepsOthers.refl _, ⟨pre, x, rfl, HALL.out, .inr ⟨rfl, by omega, .inl hx2, HF.out⟩⟩, HB.out⟩
      · by_cases hx3 : (x.2 : Int) ≤ (at_ : Int)
        · gi_wp2
          exact ⟨KeepsOthers.refl _, ⟨pre, x, rfl, HALL.out, .inr ⟨rfl, by omega, .inr (by omega), HF.out⟩⟩, HB.out⟩
        · gi_wp2
          refine ⟨((((((KeepsOthers.setCell _ _ _).trans (KeepsOthers.setCell _ _ _)).trans (KeepsOthers.setCell _ _ _)).trans (KeepsOthers.setCell _ _ _)).trans (KeepsOthers.setCell _ _ _)).trans (KeepsOthers.setCell _ _ _)), ⟨pre, x, rfl, HALL.out, .inl ⟨rfl, by omega, by omega, ?_⟩⟩, ?_⟩
          · exact (((((HF.out.set5 2 (.int .u64 (x.2 : Nat))).set3 0 (.int .i64 r)).set3 1 (.int .u64 at_)).set3 2 (.int .u64 (x.2 : Nat))).set3 3 (.int .u64 (lst n pre : Nat))).set4 0 (.int .i64 0)
          · exact (((((HB.out.setCell (p := ⟨B + 5, 2, none⟩) (by show B ≤ B + 5; omega) _).setCell (p := ⟨B + 3, 0, none⟩) (by show B ≤ B + 3; omega) _).setCell (p := ⟨B + 3, 1, none⟩) (by show B ≤ B + 3; omega) _).setCell (p := ⟨B + 3, 2, none⟩) (by show B ≤ B + 3; omega) _).setCell (p := ⟨B + 3, 3, none⟩) (by show B ≤ B + 3; omega) _).setCell (p := ⟨B + 4, 0, none⟩) (by show B ≤ B + 4; omega) _
  case done =>
    rintro D ys W hD rfl ⟨hall, hF, hB⟩ hK
    have HVV := TW.hide (HV.out.trans (fd_done hall (by simp)))
    obtain ⟨⟨e0, e1, e2, e3⟩, f0, f1, f2, f3⟩ := cells4 hF.2.2.1
    obtain ⟨g0, g1⟩ := cell1 hF.2.2.2.1
    go_wp2
    refine HKR.out _ _ ?_
    clear HKR
    go_wp2
    have hK5 := ((((((KeepsOthers.setCell W ⟨B + 3, 0, none⟩ (.int .i64 0)).trans (KeepsOthers.setCell _ ⟨B + 3, 1, none⟩ (.int .u64 0))).trans (KeepsOthers.setCell _ ⟨B + 3, 2, none⟩ (.int .u64 0))).trans (KeepsOthers.setCell _ ⟨B + 3, 3, none⟩ (.int .u64 0))).trans (KeepsOthers.setCell _ ⟨B + 4, 0, none⟩ (.int .i64 6)))).same D _ hK rfl
    have hF5 := ((((hF.set3 0 (.int .i64 0)).set3 1 (.int .u64 0)).set3 2 (.int .u64 0)).set3 3 (.int .u64 0)).set4 0 (.int .i64 6)
    have hB5 := ((((hB.setCell (p := ⟨B + 3, 0, none⟩) (by show B ≤ B + 3; omega) (.int .i64 0)).setCell (p := ⟨B + 3, 1, none⟩) (by show B ≤ B + 3; omega) (.int .u64 0)).setCell (p := ⟨B + 3, 2, none⟩) (by show B ≤ B + 3; omega) (.int .u64 0)).setCell (p := ⟨B + 3, 3, none⟩) (by show B ≤ B + 3; omega) (.int .u64 0)).setCell (p := ⟨B + 4, 0, none⟩) (by show B ≤ B + 4; omega) (.int .i64 6)
    exact find_end HVV.out hF5 hK5 hB5 (by omega) hBw rfl rfl
  case stop =>
    rintro D c pre W hD hp ⟨⟨pr, x, rfl, hall, (⟨rfl, hx1, hx2, hF⟩ | ⟨rfl, hx1, hx2, hF⟩)⟩, hB⟩ hK
    · have HVV := TW.hide (HV.out.trans (fd_ret hp hx1 hx2))
      gi_wp2
      exact find_end HVV.out hF hK hB (by omega) hBw rfl rfl
    · have HVV := TW.hide (HV.out.trans (fd_exit hp hall hx1 hx2))
      obtain ⟨⟨e0, e1, e2, e3⟩, f0, f1, f2, f3⟩ := cells4 hF.2.2.1
      obtain ⟨g0, g1⟩ := cell1 hF.2.2.2.1
      gi_wp2
      refine HKR.out _ _ ?_
      clear HKR
      go_wp2
      have hK5 := ((((((KeepsOthers.setCell W ⟨B + 3, 0, none⟩ (.int .i64 0)).trans (KeepsOthers.setCell _ ⟨B + 3, 1, none⟩ (.int .u64 0))).trans (KeepsOthers.setCell _ ⟨B + 3, 2, none⟩ (.int .u64 0))).trans (KeepsOthers.setCell _ ⟨B + 3, 3, none⟩ (.int .u64 0))).trans (KeepsOthers.setCell _ ⟨B + 4, 0, none⟩ (.int .i64 6)))).same D _ hK rfl
      have hF5 := ((((hF.set3 0 (.int .i64 0)).set3 1 (.int .u64 0)).set3 2 (.int .u64 0)).set3 3 (.int .u64 0)).set4 0 (.int .i64 6)
      have hB5 := ((((hB.setCell (p := ⟨B + 3, 0, none⟩) (by show B ≤ B + 3; omega) (.int .i64 0)).setCell (p := ⟨B + 3, 1, none⟩) (by show B ≤ B + 3; omega) (.int .u64 0)).setCell (p := ⟨B + 3, 2, none⟩) (by show B ≤ B + 3; omega) (.int .u64 0)).setCell (p := ⟨B + 3, 3, none⟩) (by show B ≤ B + 3; omega) (.int .u64 0)).setCell (p := ⟨B + 4, 0, none⟩) (by show B ≤ B + 4; omega) (.int .i64 6)
      exact find_end HVV.out hF5 hK5 hB5 (by omega) hBw rfl rfl
end LW
end Go.Proofs.Ytcpegipojkbcoaa
