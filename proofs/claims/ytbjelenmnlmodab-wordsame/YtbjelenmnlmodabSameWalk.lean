/-
  The walk of WordSame: it returns true for every input.
-/
import Derived.Test.YtbjelenmnlmodabWSame
import Derived.Test.YtbjelenmnlmodabArgs
namespace Go.Proofs.Ytbjelenmnlmodab
open Go.RowKit Go.ChangeShapes
set_option linter.unusedVariables false
namespace LW
open Words
theorem below_drewN {w w' : World} {B : Nat} (h : Below B w w') (n : Nat) : Below B w (w'.drewN n) := h.trans ⟨rfl, rfl, rfl, Nat.le_refl _, fun _ _ => rfl⟩
theorem vs_set (zs : List Int) (j : Nat) (x : Int) : (vs zs).set j (.int .u8 x) = vs (zs.set j x) := by simp [vs, List.map_set]
theorem byt_set {zs : List Int} (h : Byt zs) (j : Nat) (x : Int) (h0 : 0 ≤ x) (h1 : x < 256) : Byt (zs.set j x) := by
  intro z hz
  rcases List.mem_or_eq_of_mem_set hz with h' | rfl
  · exact h z h'
  · exact ⟨h0, h1⟩
theorem xor8_bd (a b : Int) : 0 ≤ bits .xor .u8 a b ∧ bits .xor .u8 a b < 256 := by
  show 0 ≤ IntKind.u8.wrap ((BitVec.ofInt 8 a ^^^ BitVec.ofInt 8 b).toNat : Int) ∧ IntKind.u8.wrap ((BitVec.ofInt 8 a ^^^ BitVec.ofInt 8 b).toNat : Int) < 256
  rw [IntKind.wrap_u8']; omega
/-- What the law asks of a copy that was changed, and of one that is longer. -/
structure Calls4 (a : Option Addr) (cap len : Nat) (zs : List Int) : Prop where
  copied : ∀ W, Row W a zs → Calls Try.prog 8 #[.slice a len cap] W fun e w' => ∃ v, e = .returned v ∧ w'.ownsRow W.heap.size 5 1 v len (vs zs) ∧ Below W.heap.size W w'
  wsame : ∀ a1 cap1 W ys, ys.length = len → Byt ys → Row W a zs → Row W a1 ys → Calls Try.prog 13 #[.slice a len cap, .slice a1 len cap1] W fun e w' => e = .returned (.bool (decide (zs = ys))) ∧ ∃ q, w' = W.drewN q
  same : ∀ a1 cap1 W ys, ys.length = len → Row W a zs → Row W a1 ys → Calls Try.prog 11 #[.slice a len cap, .slice a1 len cap1] W fun e w' => e = .returned (.bool (decide (zs = ys))) ∧ ∃ q, w' = W.drewN q
  longer : ∀ a1 cap1 W ys, ys.length = len + 1 → Byt ys → Row W a zs → Row W a1 ys → Calls Try.prog 13 #[.slice a len cap, .slice a1 (len + 1) cap1] W fun e w' => e = .returned (.bool false) ∧ ∃ q, w' = W.drewN q
theorem calls4 (a : Option Addr) (cap : Nat) (zs : List Int) (hz : Byt zs) (hn : a = none → cap = 0) (hm : zs.length ≤ 140737488351232) : Calls4 a cap zs.length zs where
  copied W h := LW.copied a cap zs W h hn (by omega)
  wsame a1 cap1 W ys hl hy h h1 := by
    have := LW.wsame a a1 cap cap1 zs ys W hz hy h h1 (by unfold maxLen; omega) (by unfold maxLen; omega)
    rw [hl] at this; exact this
  same a1 cap1 W ys hl h h1 := by
    have := LW.same a a1 cap cap1 zs ys W h h1 (by unfold maxLen; omega) (by unfold maxLen; omega)
    rw [hl] at this; exact this
  longer a1 cap1 W ys hl hy h h1 := by
    have := LW.wsame a a1 cap cap1 zs ys W hz hy h h1 (by unfold maxLen; omega) (by unfold maxLen; omega)
    rw [hl] at this
    have hd : decide (zs = ys) = false := by simp; rintro rfl; omega
    rw [hd] at this; exact this
theorem own_mono {w : World} {B B' n : Nat} {v : Value} {xs : List Value} (h : w.ownsRow B 5 1 v n xs) (hB : B' ≤ B) : w.ownsRow B' 5 1 v n xs := by
  refine ⟨h.1, ?_⟩
  rcases h.2 with h' | ⟨g, cap, cur, e, hg, r⟩
  · exact .inl h'
  · exact .inr ⟨g, cap, cur, e, Nat.le_trans hB hg, r⟩
theorem row_snoc {w : World} {B len : Nat} {v : Value} {zs : List Int} (hl : zs.length = len) (h : w.ownsRow B 5 1 v (len + 1) (vs zs ++ [.int .u8 0])) : ∃ a cap, v = .slice a (len + 1) cap ∧ Row w a (zs ++ [0]) := by
  have h2 : (zs ++ [0]).length = len + 1 := by simp [hl]
  obtain ⟨a, cap, e, r, _⟩ := row_of_own (zs := zs ++ [0]) (by rw [h2, vs_append]; exact h)
  exact ⟨a, cap, by rw [e, h2], r⟩
/-- An append to a row of the call's own, BEHIND A GUARD that says yes. -/
theorem append_wanted {P : Program} (w : World) {ops : Array Oper} {rest : List Oper} {o : Oper} {a : Act} {Q : Exit → Act → World → Prop} (hwant : Region.wanted o (yielded ops a.tmps) = true) (s x : Operand) (t : TypeId)
    (ho : o.op = .call { callee := .builtin .append, args := #[s, x], argTypes := #[t, t] })
    (base : Nat) (e : TypeId) (i : TypeInfo) (z : Value) (size bytes : Nat) (ht : P.underlying t = some (.slice e)) (hi : P.info? e = some i) (hz : i.zero = some z)
    (hsize : i.size = size) (hby : i.bytes = bytes) (hzs : z.cells.size = size) (hsz : 0 < size)
    (v : Value) (n : Nat) (xs : List Value) (hs : a.eval s = v) (hown : w.ownsRow base e size v n xs)
    (ad : Addr) (m c : Nat) (news : List Value) (hx : a.eval x = .slice (some ad) m c) (hl : news.length = m * size) (hnews : ∀ j u, news[j]? = some u → w.cell? (ad.add j) = some u) (h1 : ∀ u ∈ news, u.oneCell' = true)
    (h63 : n + m ≤ maxLen) (hbytes : (n + m) * bytes ≤ 140737488355328) (hbase : base ≤ w.heap.size)
    (h : ∀ v' w', w'.ownsRow base e size v' (n + m) (xs ++ news) → w.grownBy w' v.ownBlock → wpList P ops Q rest (a.put o.dst v') w') : wpList P ops Q (o :: rest) a w := by
  unfold wpList
  rw [if_pos hwant]
  exact .inl (wp_append_own w s x t ho base e i z size bytes ht hi hz hsize hby hzs hsz v n xs hs hown ad m c news hx hl hnews h1 h63 hbytes hbase fun v' w' h2 h3 _ => h v' w' h2 h3)
set_option maxHeartbeats 1000000 in
theorem sames (a : Option Addr) (cap : Nat) (zs : List Int) (a' : Option Addr) (cap' : Nat) (ys : List Int) (at_ by_ : Int) (w : World)
    (hz : Byt zs) (hr : Row w a zs) (hn : a = none → cap = 0) (hm : zs.length ≤ 140737488351232)
    (hy : Byt ys) (hr' : Row w a' ys) (hn' : a' = none → cap' = 0) (hm' : ys.length ≤ 140737488351232)
    (w2 : (Lit.int .i64 at_).wf = true) (w3 : (Lit.int .u8 by_).wf = true) :
    Calls Try.prog 4 #[.slice a zs.length cap, .slice a' ys.length cap', .int .i64 at_, .int .u8 by_] w fun e w' => e = .returned (.bool true) ∧ Below w.heap.size w w' := by
  obtain ⟨i0, hi, hz0, hz1, hz2⟩ := info_parts info5
  have hM : zs.length ≤ maxLen := by unfold maxLen; omega
  have hM' : ys.length ≤ maxLen := by unfold maxLen; omega
  obtain ⟨len, hl⟩ : ∃ len, zs.length = len := ⟨_, rfl⟩
  have c := calls4 a cap zs hz hn hm
  have s2 := fun W (h : Row W a zs) h1 => wsame a a' cap cap' zs ys W hz hy h h1 hM hM'
  have s3 := fun W (h : Row W a zs) h1 => same a a' cap cap' zs ys W h h1 hM hM'
  have ho := fun (w' : World) (B : Nat) (x : Value) (ys : List Int) (hl : ys.length = zs.length) (h : w'.ownsRow B 5 1 x zs.length (vs ys)) => row_of_own (zs := ys) (by rw [hl]; exact h)
  rw [hl] at c s2 s3 ho hm ⊢
  generalize hd : decide (zs = ys) = d at *
  generalize hl' : ys.length = len' at *
  have C := TW.hide c
  have S2 := TW.hide s2
  have S3 := TW.hide s3
  have HO := TW.hide ho
  have HR := TW.hide hr
  have HR' := TW.hide hr'
  have HL := TW.hide hl
  have HZ := TW.hide hz
  clear hr hr' hd hn hn' hM hM' hm' w2 w3 c s2 s3 ho hl hl' hz hy
  by_cases h0 : len = 0
  · subst h0
    go_enter Try.func4, Try.ntmps4
    go_wp2_with fail
    refine (C.out.copied _ HR.out).mono ?_
    rintro e w1 ⟨x, rfl, hown, hb1⟩
    obtain ⟨a1, cap1, rfl, hr1, _⟩ := HO.out _ _ _ _ HL.out hown
    have R0 := TW.hide (HR.out.below hb1)
    have R0' := TW.hide (HR'.out.below hb1)
    have R1 := TW.hide hr1
    have B1 := TW.hide hb1
    clear hown hr1 hb1
    rw [HL.out]
    go_wp2_with fail
    refine (C.out.wsame _ _ _ zs HL.out HZ.out R0.out R1.out).mono ?_
    rintro e w2 ⟨rfl, q1, rfl⟩
    rw [show decide (zs = zs) = true by simp]
    go_wp2_with fail
    refine (S2.out _ (R0.out.drewN _) (R0'.out.drewN _)).mono ?_
    rintro e w2 ⟨rfl, q2, rfl⟩
    go_wp2_with fail
    refine (S3.out _ (R0.out.drewN _) (R0'.out.drewN _)).mono ?_
    rintro e w2 ⟨rfl, q3, rfl⟩
    go_wp2_with fail
    refine (C.out.copied _ (R0.out.drewN _)).mono ?_
    rintro e w3 ⟨x, rfl, hown3, hb3⟩
    obtain ⟨ac, capc, rfl, hrc, _⟩ := HO.out _ _ _ _ HL.out hown3
    have RC := TW.hide hrc
    have RA := TW.hide ((R0.out.drewN (q1 + q2 + q3)).below hb3)
    have BL : Hid (Below w.heap.size w w3) := (below_drewN B1.out (q1 + q2 + q3)).trans (hb3.mono B1.out.size)
    clear hown3 hb3 hrc
    rw [HL.out]
    go_wp2_with fail
    refine (C.out.wsame _ _ _ zs HL.out HZ.out RA.out RC.out).mono ?_
    rintro e w4 ⟨rfl, q4, rfl⟩
    go_wp2_with fail
    refine (C.out.same _ _ _ zs HL.out (RA.out.drewN _) (RC.out.drewN _)).mono ?_
    rintro e w4 ⟨rfl, q5, rfl⟩
    rw [show decide (zs = zs) = true by simp]
    go_wp2_with fail
    refine (C.out.copied _ (RA.out.drewN _)).mono ?_
    rintro e w5 ⟨x5, rfl, hown5, hb5⟩
    have hb5' : Below w.heap.size w w5 := (below_drewN BL.out (q4 + q5)).trans (hb5.mono BL.out.size)
    have B5 := TW.hide hb5'
    have O5 := TW.hide (own_mono hown5 (Nat.le_trans (Nat.le_refl _) BL.out.size))
    have RA5 := TW.hide ((RA.out.drewN (q4 + q5)).below hb5)
    clear hb5 hb5' hown5 RC RA BL
    go_wp2_with (at_builtin; refine append_wanted _ (by rfl) _ _ 22 rfl w.heap.size 5 i0 (.int .u8 0) 1 1 Try.underlying22 hi hz0 hz1 hz2 rfl (by decide) x5 _ _ rfl (O5.out.alloc _) ⟨w5.heap.size, 0, none⟩ 1 1 [.int .u8 0] rfl rfl (one_new _ _) (by simp [Value.oneCell']) (by unfold maxLen; omega) (by omega) (by have := B5.out.size; simp; omega) ?_; intro v' w6 hown6 hgrow6; have B6 : Hid (Below w.heap.size w w6) := (B5.out.alloc B5.out.size _).grown hgrow6 (by have := B5.out.size; simp; omega) (own_block O5.out); have O6 := TW.hide (row_snoc HL.out hown6); clear hown6 hgrow6)
    obtain ⟨a6, cap6, hv6, hr6⟩ := O6.out
    subst hv6
    refine (C.out.longer _ _ _ (zs ++ [0]) (by simp [HL.out]) (HZ.out.append (Byt.mk (by omega) (by omega) Byt.nil)) (HR.out.below B6.out) hr6).mono ?_
    rintro e w7 ⟨rfl, q7, rfl⟩
    clear hr6
    go_wp2_with fail
    go_ret
    exact ⟨rfl, below_drewN B6.out q7⟩
  · have hp : (0 : Int) < (len : Int) := by omega
    obtain ⟨j, hj, hk⟩ : ∃ j : Nat, j < len ∧ (at_.tmod len = j ∨ at_.tmod len = (j : Int) - len) := by
      have h1 := Int.tmod_lt_of_pos at_ hp
      have h2 := Int.lt_tmod_of_pos at_ hp
      by_cases h : 0 ≤ at_.tmod len
      · exact ⟨(at_.tmod len).toNat, by omega, .inl (by omega)⟩
      · exact ⟨(at_.tmod len + len).toNat, by omega, .inr (by omega)⟩
    have hjI : (j : Int) < (len : Int) := by omega
    go_enter Try.func4, Try.ntmps4
    go_wp2_with fail
    refine (C.out.copied _ HR.out).mono ?_
    rintro e w1 ⟨x, rfl, hown, hb1⟩
    obtain ⟨a1, cap1, rfl, hr1, _⟩ := HO.out _ _ _ _ HL.out hown
    have R0 := TW.hide (HR.out.below hb1)
    have R0' := TW.hide (HR'.out.below hb1)
    have R1 := TW.hide hr1
    have B1 := TW.hide hb1
    clear hown hr1 hb1
    rw [HL.out]
    go_wp2_with fail
    refine (C.out.wsame _ _ _ zs HL.out HZ.out R0.out R1.out).mono ?_
    rintro e w2 ⟨rfl, q1, rfl⟩
    rw [show decide (zs = zs) = true by simp]
    go_wp2_with fail
    refine (S2.out _ (R0.out.drewN _) (R0'.out.drewN _)).mono ?_
    rintro e w2 ⟨rfl, q2, rfl⟩
    go_wp2_with fail
    refine (S3.out _ (R0.out.drewN _) (R0'.out.drewN _)).mono ?_
    rintro e w2 ⟨rfl, q3, rfl⟩
    go_wp2_with fail
    refine (C.out.copied _ (R0.out.drewN _)).mono ?_
    rintro e w3 ⟨x, rfl, hown3, hb3⟩
    obtain ⟨g, cap3, hx, hg⟩ : ∃ g cap3, x = .slice (some ⟨g, 0, none⟩) len cap3 ∧ w1.heap.size ≤ g := by
      rcases hown3.2 with ⟨_, h⟩ | ⟨g, cap, cur, rfl, hg, _⟩
      · exact absurd h h0
      · exact ⟨g, cap, rfl, hg⟩
    rw [hx]
    rw [hx] at hown3
    clear hx
    have hc : w3.cell? ⟨g, j, none⟩ = some (.int .u8 (zs.getD j 0)) := by rw [hown3.cellAt j (by omega), vs_get _ _ (by rw [HL.out]; exact hj)]
    have hf := hown3.frozenAt j
    generalize zs.getD j 0 = z at *
    have hX := xor8_bd z by_
    have st := hown3.stored j (.int .u8 (bits BinOp.xor IntKind.u8 z by_))
    rw [vs_set] at st
    have hbt := byt_set HZ.out j _ hX.1 hX.2
    have hbl : Below w.heap.size w (w3.setCell ⟨g, j, none⟩ (.int .u8 (bits BinOp.xor IntKind.u8 z by_))) := ((below_drewN B1.out (q1 + q2 + q3)).trans (hb3.mono B1.out.size)).setCell (Nat.le_trans B1.out.size hg) _
    have hls : (zs.set j (bits BinOp.xor IntKind.u8 z by_)).length = len := by rw [List.length_set, HL.out]
    obtain ⟨y, hy⟩ : ∃ y, bits BinOp.xor IntKind.u8 z by_ = y := ⟨_, rfl⟩
    rw [hy] at st hbt hbl hls
    obtain ⟨ac, capc, hx, hrc, _⟩ := HO.out _ _ _ _ hls st.1
    simp only [Value.slice.injEq] at hx
    obtain ⟨rfl, hq, rfl⟩ := hx
    clear hq
    have RC := TW.hide hrc
    have RA := TW.hide (HR.out.below hbl)
    have BT := TW.hide hbt
    have BL := TW.hide hbl
    have LS := TW.hide hls
    generalize zs.set j y = ys2 at *
    clear st hbt hbl hls hX hrc hown3 hb3
    rcases hk with hk | hk
    all_goals
      go_wp2_with fail
      refine (C.out.wsame _ _ _ ys2 LS.out BT.out RA.out RC.out).mono ?_
      rintro e w4 ⟨rfl, q4, rfl⟩
      go_wp2_with fail
      refine (C.out.same _ _ _ ys2 LS.out (RA.out.drewN _) (RC.out.drewN _)).mono ?_
      rintro e w4 ⟨rfl, q5, rfl⟩
      generalize decide (zs = ys2) = d2 at *
      go_wp2_with fail
      refine (C.out.copied _ (RA.out.drewN _)).mono ?_
      rintro e w5 ⟨x5, rfl, hown5, hb5⟩
      have hb5' : Below w.heap.size w w5 := (below_drewN BL.out (q4 + q5)).trans (hb5.mono BL.out.size)
      have B5 := TW.hide hb5'
      have O5 := TW.hide (own_mono hown5 (Nat.le_trans (Nat.le_refl _) BL.out.size))
      have RA5 := TW.hide ((RA.out.drewN (q4 + q5)).below hb5)
      clear hb5 hb5' hown5 RC RA BT BL LS
      go_wp2_with (at_builtin; refine append_wanted _ (by rfl) _ _ 22 rfl w.heap.size 5 i0 (.int .u8 0) 1 1 Try.underlying22 hi hz0 hz1 hz2 rfl (by decide) x5 _ _ rfl (O5.out.alloc _) ⟨w5.heap.size, 0, none⟩ 1 1 [.int .u8 0] rfl rfl (one_new _ _) (by simp [Value.oneCell']) (by unfold maxLen; omega) (by omega) (by have := B5.out.size; simp; omega) ?_; intro v' w6 hown6 hgrow6; have B6 : Hid (Below w.heap.size w w6) := (B5.out.alloc B5.out.size _).grown hgrow6 (by have := B5.out.size; simp; omega) (own_block O5.out); have O6 := TW.hide (row_snoc HL.out hown6); clear hown6 hgrow6)
      obtain ⟨a6, cap6, hv6, hr6⟩ := O6.out
      subst hv6
      refine (C.out.longer _ _ _ (zs ++ [0]) (by simp [HL.out]) (HZ.out.append (Byt.mk (by omega) (by omega) Byt.nil)) (HR.out.below B6.out) hr6).mono ?_
      rintro e w7 ⟨rfl, q7, rfl⟩
      clear hr6
      go_wp2_with fail
      go_ret
      exact ⟨rfl, below_drewN B6.out q7⟩
end LW
end Go.Proofs.Ytbjelenmnlmodab
