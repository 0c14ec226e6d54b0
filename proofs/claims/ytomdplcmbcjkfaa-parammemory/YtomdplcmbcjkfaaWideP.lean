/-
  What the laws' calls wide and kept give: bytes with marked ones behind them, and whether they are as they were.
-/
import Derived.Test.YtomdplcmbcjkfaaSpoilU
import Derived.Test.YtomdplcmbcjkfaaSame
import Derived.Test.YtomdplcmbcjkfaaUnif
import Derived.Laws.AppendOwnNone
namespace Go.Proofs.Ytomdplcmbcjkfaa
open Go.RowKit Go.ChangeShapes
set_option linter.unusedVariables false
set_option linter.unusedSimpArgs false
namespace LW
open Words
theorem row_at {w : World} {a : Option Addr} {zs : List Int} (h : LW.Row w a zs) (hz : 0 < zs.length) : ∃ b off, a = some ⟨b, off, none⟩ ∧ ∀ (j : Nat) (u : Value), (LW.vs zs)[j]? = some u → w.cell? ((⟨b, off, none⟩ : Addr).add j) = some u := by
  rcases h with rfl | ⟨b, off, rfl, hc⟩
  · simp at hz
  · refine ⟨b, off, rfl, fun j u hj => ?_⟩
    have hlt : j < zs.length := by rw [← LW.vs_length zs]; exact (List.getElem?_eq_some_iff.1 hj).1
    have e : (⟨b, off, none⟩ : Addr).add j = ⟨b, off + j, none⟩ := by unfold Addr.add; split <;> simp_all
    rw [e, hc j hlt]
    rw [LW.vs_get zs j hlt] at hj
    exact hj
/-- 'append(v, b...)' where the call itself has made v, and it is empty. -/
theorem wpList_copy_own {w : World} {base : Nat} {ops : Array Oper} {rest : List Oper} {o : Oper} {a : Act} {Q : Exit → Act → World → Prop} (hgd : o.guard = none) (s x : Operand)
    (ho : o.op = .call { callee := .builtin .append, args := #[s, x], argTypes := #[24, 24] }) (v : Value) (b : Option Addr) (cap : Nat) (zs ys : List Int) (n len : Nat) (hlen : zs.length = len) (hs : a.eval s = v) (hown : w.ownsRow base 5 1 v n (LW.vs ys)) (hx : a.eval x = .slice b len cap)
    (hr : LW.Row w b zs) (hn : b = none → cap = 0) (hm : n + len ≤ 140737488355328) (hbase : base ≤ w.heap.size)
    (h : ∀ x' w', w'.ownsRow base 5 1 x' (n + len) (LW.vs (ys ++ zs)) → Below base w w' → wpList Try.prog ops Q rest (a.put o.dst x') w') : wpList Try.prog ops Q (o :: rest) a w := by
  obtain ⟨i0, hi, hz0, hz1, hz2⟩ := info_parts LW.info5
  subst hlen
  cases b with
  | none =>
    obtain rfl := hn rfl
    obtain rfl : zs = [] := by rcases hr with h | ⟨b, off, h, _⟩ <;> first | exact h | cases h
    refine wpList_append_own_none hgd s x 24 ho base 5 i0 1 Try.underlying24 hi _ n (LW.vs ys) hs hown hx (h _ _ ?_ (Below.refl _ _))
    rw [List.append_nil]; exact hown
  | some ad =>
    have hnews : ∀ (j : Nat) (u : Value), (LW.vs zs)[j]? = some u → w.cell? (ad.add j) = some u := by
      intro j u hj
      have hlt : j < zs.length := by rw [← LW.vs_length zs]; exact (List.getElem?_eq_some_iff.1 hj).1
      obtain ⟨b', off', he, hc⟩ := row_at hr (by omega)
      cases he
      exact hc j u hj
    refine wpList_append_own _ hgd s x 24 ho base 5 i0 (.int .u8 0) 1 1 Try.underlying24 hi hz0 hz1 hz2 rfl (by decide) v n (LW.vs ys) hs hown ad zs.length cap (LW.vs zs) hx (by rw [Nat.mul_one]; exact LW.vs_length zs) hnews (oneCell_vs zs) (by unfold maxLen; omega) (by omega) hbase ?_
    intro v' w2 hown' hgrow' _
    refine h _ _ ?_ ((Below.refl _ _).grown hgrow' hbase (LW.own_block hown))
    rw [LW.vs_append]; exact hown'
/-- The bytes that mark the room behind. -/
def markL (k : Nat) : List Int := (List.range k).map fun i => 200 + ((i % 7 : Nat) : Int)
theorem markL_succ (k : Nat) : markL (k + 1) = markL k ++ [200 + ((k % 7 : Nat) : Int)] := by
  unfold markL; rw [List.range_succ, List.map_append]; rfl
theorem markL_length (k : Nat) : (markL k).length = k := by simp [markL]
theorem markL_Byt (k : Nat) : Byt (markL k) := fun x hx => by
  simp only [markL, List.mem_map] at hx
  obtain ⟨i, _, rfl⟩ := hx
  omega
def wideL (zs : List Int) : List Int := zs ++ markL 70
theorem wideL_length (zs : List Int) : (wideL zs).length = zs.length + 70 := by simp [wideL, markL_length]
theorem wideL_Byt {zs : List Int} (h : Byt zs) : Byt (wideL zs) := Byt.append h (markL_Byt 70)
set_option maxHeartbeats 1000000 in
theorem wide (b : Option Addr) (cap : Nat) (zs : List Int) (w : World) (hr : LW.Row w b zs) (hn : b = none → cap = 0) (hm : zs.length ≤ 140737488351232) :
    Calls Try.prog 5 #[.slice b zs.length cap] w fun e w' => ∃ v, e = .returned v ∧ w'.ownsRow w.heap.size 5 1 v (zs.length + 70) (LW.vs (wideL zs)) ∧ Below w.heap.size w w' := by
  obtain ⟨i0, hi, hz0, hz1, hz2⟩ := info_parts LW.info5
  have HR := TW.hide hr
  have HN := TW.hide hn
  obtain ⟨len, hlen⟩ : ∃ len, zs.length = len := ⟨_, rfl⟩
  rw [hlen] at hm ⊢
  have HL := TW.hide hlen
  clear hr hn hlen
  go_enter Try.func5, Try.ntmps5
  go_wp2_with (at_builtin; refine wpList_copy_own rfl _ _ rfl (.slice none 0 0) b cap zs [] 0 len HL.out rfl (World.ownsRow_nil w w.heap.size 5 1) rfl HR.out HN.out (by omega) (Nat.le_refl _) ?_)
  intro v0 w1 hown hbel
  have M0 : Hid (w1.ownsRow w.heap.size 5 1 v0 (len + 0) (LW.vs (zs ++ markL 0))) := by
    show w1.ownsRow _ _ _ _ _ _
    rw [Nat.add_zero, show markL 0 = [] from rfl, List.append_nil]
    simpa using hown
  have MB := TW.hide hbel
  clear hown hbel HR HN HL
  go_wp2
  go_loopw [3, 4] (fun o i wr => ∃ k : Nat, k ≤ 70 ∧ i = .int .i64 k ∧ wr.ownsRow w.heap.size 5 1 o (len + k) (LW.vs (zs ++ markL k)) ∧ Below w.heap.size w wr) (fun _ i _ => 70 - (intOf i).toNat)
  case atStart => exact ⟨0, Nat.zero_le _, rfl, M0.out, MB.out⟩
  case round =>
    obtain ⟨k, hk, rfl, hown, hbel⟩ := hrel
    clear M0 MB
    by_cases hlt : k < 70
    · have HB := TW.hide hbel
      have HO := TW.hide hown
      clear hbel hown
      have k1 : (k : Int) < 70 := by omega
      have e7 : (k : Int).tmod 7 = ((k % 7 : Nat) : Int) := by rw [Int.tmod_eq_emod_of_nonneg (by omega)]; omega
      have e8 : IntKind.i64.wrap (200 + ((k % 7 : Nat) : Int)) = 200 + ((k % 7 : Nat) : Int) := by rw [IntKind.wrap_i64]; omega
      have e9 : IntKind.u8.wrap (200 + ((k % 7 : Nat) : Int)) = 200 + ((k % 7 : Nat) : Int) := by rw [IntKind.wrap_u8]; omega
      have hs := markL_succ k
      have HS := TW.hide hs
      clear hs
      have HSZ : Hid (w.heap.size ≤ wr.heap.size) := HB.out.size
      go_wp2_with (at_builtin; refine wpList_append_own _ rfl _ _ 24 rfl w.heap.size 5 i0 (.int .u8 0) 1 1 Try.underlying24 hi hz0 hz1 hz2 rfl (by decide) _ (len + k) _ rfl (HO.out.alloc _) ⟨wr.heap.size, 0, none⟩ 1 1 [.int .u8 (200 + ((k % 7 : Nat) : Int))] ?c6 rfl ?c1 ?c2 ?c3 ?c4 ?c5 ?_)
      case c6 => rfl
      case c1 => exact LW.one_new _ _
      case c2 => intro u hu; simp at hu; subst hu; rfl
      case c3 => unfold maxLen; omega
      case c4 => omega
      case c5 => have := HB.out.size; simp; omega
      intro v' w2 hown' hgrow' _
      have hbel2 : Below w.heap.size w w2 := (HB.out.alloc HB.out.size _).grown hgrow' (by have := HB.out.size; simp; omega) (LW.own_block HO.out)
      have H1 : Hid (w2.ownsRow w.heap.size 5 1 v' (len + (k + 1)) (LW.vs (zs ++ markL (k + 1)))) := by
        show w2.ownsRow _ _ _ _ _ _
        rw [HS.out, ← List.append_assoc, LW.vs_append]; exact hown'
      have H2 := TW.hide hbel2
      clear hown' hgrow' hbel2
      go_wp2
      go_roundw
      case rel => exact ⟨k + 1, by omega, by go_num, H1.out, H2.out⟩
      case measure => simp [intOf]; omega
    · obtain rfl : k = 70 := by omega
      go_wp2
      go_ret
      exact ⟨_, rfl, hown, hbel⟩
theorem kept (a b : Option Addr) (ca cb : Nat) (zs : List Int) (w : World) (ha : LW.Row w a (wideL zs)) (hr : LW.Row w b zs) (hn : b = none → cb = 0) (hm : zs.length ≤ 140737488351232) :
    Calls Try.prog 11 #[.slice a (zs.length + 70) ca, .slice b zs.length cb] w fun e w' => e = .returned (.bool true) ∧ Below w.heap.size w w' := by
  have h1 := wide b cb zs w hr hn hm
  have h2 : ∀ (Y : World) (x : Option Addr) (cx : Nat), LW.Row Y a (wideL zs) → LW.Row Y x (wideL zs) → Calls Try.prog 15 #[.slice a (zs.length + 70) ca, .slice x (zs.length + 70) cx] Y fun e w' => e = .returned (.bool true) ∧ ∃ q, w' = Y.drewN q := fun Y x cx r1 r2 => by
    have h := same a x ca cx (wideL zs) (wideL zs) Y r1 r2 (by rw [wideL_length]; unfold maxLen; omega) (by rw [wideL_length]; unfold maxLen; omega)
    rw [wideL_length] at h
    simpa using h
  have H1 := TW.hide h1
  have H2 := TW.hide h2
  have HA := TW.hide ha
  have HLN := TW.hide (wideL_length zs)
  clear h1 h2 ha hr hn hm
  generalize zs.length = len at *
  go_enter Try.func11, Try.ntmps11
  go_wp2_with fail
  refine H1.out.mono ?_
  rintro e w1 ⟨v, rfl, hown, hb⟩
  rw [← HLN.out] at hown
  obtain ⟨x, cx, rfl, hrow, _⟩ := LW.row_of_own hown
  have HX := TW.hide (H2.out w1 x cx (HA.out.below hb) hrow)
  rw [HLN.out]
  have HB := TW.hide hb
  clear hown hrow hb H1 HA
  go_wp2_with fail
  refine HX.out.mono ?_
  rintro e w2 ⟨rfl, q, rfl⟩
  go_wp2
  go_ret
  exact ⟨rfl, below_drewN HB.out q⟩
end LW
end Go.Proofs.Ytomdplcmbcjkfaa
