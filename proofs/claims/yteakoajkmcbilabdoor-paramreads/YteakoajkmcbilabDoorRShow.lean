/-
  What the calls name and Show (the document) give, for all parameters.
-/
import Derived.Test.YteakoajkmcbilabDoorShow
import Derived.Test.YteakoajkmcbilabDoorRHex
namespace Go.Proofs.YteakoajkmcbilabDoor
open Go.RowKit
set_option linter.unusedVariables false
set_option linter.unusedSimpArgs false
namespace LW
open Words
set_option maxRecDepth 100000 in
theorem rname (f : Int) (h1 : 1 ≤ f) (h2 : f ≤ 11) (w : World) : Calls Tryd.prog 26 #[.int .i64 f] w fun e w' => e = .returned (.string (strOfNums (nmL f ++ [61]))) ∧ w = w' := by
  rcases fieldCases f h1 h2 with rfl | rfl | rfl | rfl | rfl | rfl | rfl | rfl | rfl | rfl | rfl
  all_goals
    clear h1 h2
    go_enter Tryd.func26, Tryd.ntmps26
    go_wp2
    go_ret
    exact ⟨rfl, rfl⟩
set_option maxRecDepth 100000 in
set_option maxHeartbeats 2000000 in
theorem rshowE (kd : Int) (p : Pm) (hp : p.Ok) (sa ta : Option Addr) (sc tc : Nat) (s t : List Int) (w : World) (h1 : Pb w sa sc s) (h2 : Pb w ta tc t) (E : Int) (hck : p.ck kd s.length t.length = E) (hE : ¬ E = 0) :
    Calls Tryd.prog 8 #[.int .i64 kd, .agg (pcP p (.slice sa s.length sc) (.slice ta t.length tc))] w fun e w' => e = .returned (.tuple #[.string .empty, .int .i64 E]) ∧ Below w.heap.size w w' := by
  have hno : ∀ W, Below w.heap.size w W → Calls Tryd.prog 24 #[.int .i64 kd, .agg (pcP p (.slice sa s.length sc) (.slice ta t.length tc))] W fun e w' => ∃ x y, e = .returned (.tuple #[.agg (pcP Pm.zero x y), .int .i64 E]) ∧ (∃ a c, x = .slice a 0 c) ∧ (∃ a c, y = .slice a 0 c) ∧ Below W.heap.size W w' := fun W hb => by
    refine (rnormalP kd p hp sa ta sc tc s t W (h1.below hb) (h2.below hb)).mono ?_
    rintro e w' ⟨x, y, rfl, ox, oy, hb'⟩
    rw [hck] at ox oy ⊢
    simp only [nP, nS, hE, if_false] at ox oy ⊢
    obtain ⟨a, c, rfl⟩ := own_form ox
    obtain ⟨a', c', rfl⟩ := own_form oy
    exact ⟨_, _, rfl, ⟨_, _, rfl⟩, ⟨_, _, rfl⟩, hb'⟩
  have hne : (E != 0) = true := bne0 hE
  have HN := TW.hide hno
  clear hno h1 h2 hck hE
  have n0 := heap_new w (.cells (pcP p (.slice sa s.length sc) (.slice ta t.length tc)) 26)
  have b0 := (Below.refl w.heap.size w).alloc (Nat.le_refl _) (.cells (pcP p (.slice sa s.length sc) (.slice ta t.length tc)) 26)
  go_enter Tryd.func8, Tryd.ntmps8
  refine wp_seq_k fun KK hK => ?_
  have HK := TW.hide hK
  clear hK
  go_wp2
  refine HK.out _ _ ?_
  clear HK KK
  change Code.wp _ _ _ _ (w.alloc (.cells (pcP p (.slice sa s.length sc) (.slice ta t.length tc)) 26))
  generalize w.alloc (.cells (pcP p (.slice sa s.length sc) (.slice ta t.length tc)) 26) = W at n0 b0 ⊢
  generalize hB : w.heap.size = B at *
  have N0 := TW.hide n0
  have B0 := TW.hide b0
  have HBB := TW.hide hB
  clear n0 b0 hB
  refine wp_seq_k fun KK hK => ?_
  have HK := TW.hide hK
  clear hK
  go_wp2_with (refine wpList_val (.agg (pcP p (.slice sa s.length sc) (.slice ta t.length tc))) (by rfl) (exec_load_row' 26 _ (by rfl) (B) (by rfl) 26 (pcP p (.slice sa s.length sc) (.slice ta t.length tc)) (0, 0) _ N0.out Tryd.underlying26 rfl (info31 _ _ _)) ?_)
  refine (HN.out _ B0.out).mono ?_
  rintro e w1 ⟨x, y, rfl, ⟨a1, c1, rfl⟩, ⟨a2, c2, rfl⟩, hb⟩
  have B1 : Hid (Below B w w1) := below_row B0.out hb (by have := blk_lt N0.out; omega)
  clear hb
  go_wp2_with (first | (refine wpList_store_row (by rfl) 26 _ _ (by rfl) (w1.heap.size) (pcP Pm.zero (.slice a1 0 c1) (.slice a2 0 c2)) (by rfl) (by rfl) 26 _ (heap_new w1 _) (info31 _ _ _) (pc_size Pm.zero _ _ _ _ _) (pc_one _ _ _ _ _ _ _) ?_))
  have nx := setRow_heap _ _ _ (pcP Pm.zero (.slice a1 0 c1) (.slice a2 0 c2)) _ _ (heap_new w1 (.cells #[.int .i64 0, .int .i64 0, .int .i64 0, .int .i64 0, .int .u32 0, .int .u64 0, .int .u32 0, .int .i64 0, .int .i64 0, .slice none 0 0, .slice none 0 0] 26))
  have bx := below_setRow (cs := (pcP Pm.zero (.slice a1 0 c1) (.slice a2 0 c2))) ((Below.refl w1.heap.size w1).alloc (Nat.le_refl _) (.cells #[.int .i64 0, .int .i64 0, .int .i64 0, .int .i64 0, .int .u32 0, .int .u64 0, .int .u32 0, .int .i64 0, .int .i64 0, .slice none 0 0, .slice none 0 0] 26)) (g := w1.heap.size) (Nat.le_refl _)
  generalize (w1.alloc (.cells #[.int .i64 0, .int .i64 0, .int .i64 0, .int .i64 0, .int .u32 0, .int .u64 0, .int .u32 0, .int .i64 0, .int .i64 0, .slice none 0 0, .slice none 0 0] 26)).setRow w1.heap.size (pcP Pm.zero (.slice a1 0 c1) (.slice a2 0 c2)) = X1 at nx bx ⊢
  have B2 : Hid (Below B w X1) := below_row B1.out bx (by have := B1.out.size; have := HBB.out; omega)
  clear nx bx B1
  refine HK.out _ _ ?_
  clear HK KK
  go_wp2
  go_ret2
  exact ⟨rfl, B2.out⟩
theorem nv_list (p : Pm) (j : Nat) (hj : j < 9) : (#[Value.int .u64 p.d, .int .u64 p.k, .int .u64 p.f, .int .u64 p.dp, .int .u64 p.lf, .int .u64 p.off, .int .u64 p.xof, .int .u64 p.nd, .int .u64 p.inn] : Array Value)[j]? = some (.int .u64 (p.nv ((j : Int) + 1))) := by
  have : j = 0 ∨ j = 1 ∨ j = 2 ∨ j = 3 ∨ j = 4 ∨ j = 5 ∨ j = 6 ∨ j = 7 ∨ j = 8 := by omega
  rcases this with rfl | rfl | rfl | rfl | rfl | rfl | rfl | rfl | rfl <;> rfl
theorem wrap_u {x : Int} (h0 : 0 ≤ x) (h1 : x < 18446744073709551616) : IntKind.u64.wrap x = x := by rw [IntKind.wrap_u64]; omega
set_option maxRecDepth 100000 in
set_option maxHeartbeats 40000000 in
theorem rshowOk (kd : Int) (hk : kd = 1 ∨ kd = 2) (p : Pm) (hp : p.Ok) (hmay : p.May) (sa ta : Option Addr) (sc tc : Nat) (s t S T : List Int) (w : World)
    (hno : ∀ W, Below w.heap.size w W → Calls Tryd.prog 24 #[.int .i64 kd, .agg (pcP p (.slice sa s.length sc) (.slice ta t.length tc))] W fun e w' => ∃ a1 c1 a2 c2, e = .returned (.tuple #[.agg (pcP p (.slice a1 S.length c1) (.slice a2 T.length c2)), .int .i64 0]) ∧ Pb w' a1 c1 S ∧ Pb w' a2 c2 T ∧ Below W.heap.size W w')
    (ls : S.length ≤ 64) (lt : T.length ≤ 64) (bs : Byt S) (bt : Byt T) :
    Calls Tryd.prog 8 #[.int .i64 kd, .agg (pcP p (.slice sa s.length sc) (.slice ta t.length tc))] w fun e w' => e = .returned (.tuple #[.string (strOfNums (lnL kd p S T 11)), .int .i64 0]) ∧ Below w.heap.size w w' := by
  have HN := TW.hide hno
  clear hno
  have hlen := fun k (h : k ≤ 11) => lnL_len kd p hp hmay ls lt k h
  have husb := fun (f : Int) (h1 : 1 ≤ f) (h9 : f ≤ 9) => usB_num hk hp hmay S T h1 h9
  have hnvb := fun (f : Int) (h1 : 1 ≤ f) (h9 : f ≤ 9) => nv_bd p hp hmay f h1 h9
  have hwl := fun (f : Int) (h1 : 1 ≤ f) (h2 : f ≤ 11) => shV_len p hp hmay ls lt f h1 h2
  have HLEN := TW.hide hlen
  have HUSB := TW.hide husb
  have HNVB := TW.hide hnvb
  have HWL := TW.hide hwl
  have u1 := wrap_u (x := p.d) (by have := hmay.d0; omega) (by have := hmay.d1; omega)
  have u2 := wrap_u (x := p.k) hmay.k0 (by have := hmay.k1; omega)
  have u3 := wrap_u (x := p.f) hmay.f0 (by have := hmay.f1; omega)
  have u4 := wrap_u (x := p.dp) hmay.e0 (by have := hmay.e1; omega)
  have u5 := wrap_u (x := p.lf) hp.l0 (by have := hp.l1; omega)
  have u7 := wrap_u (x := p.xof) hp.x0 (by have := hp.x1; omega)
  have u8 := wrap_u (x := p.nd) hmay.n0 (by have := hmay.n1; omega)
  have u9 := wrap_u (x := p.inn) hmay.i0 (by have := hmay.i1; omega)
  have hmo : mo kd = 64 ∨ mo kd = 32 := by rcases hk with rfl | rfl <;> decide
  have um := wrap_u (x := mo kd) (by omega) (by omega)
  have HUS : Hid (usP kd = ⟨mo kd, 0, 1, 1, 0, 0, 0, 0, 0⟩) := rfl
  have HKN : Hid (knL kd = if kd = 2 then [50, 115] else [50, 98]) := rfl
  have HMO := TW.hide (fun W => rmost kd W)
  clear hlen husb hnvb hwl
  generalize mo kd = m at *
  have n0 := heap_new w (.cells (pcP p (.slice sa s.length sc) (.slice ta t.length tc)) 26)
  have b0 := (Below.refl w.heap.size w).alloc (Nat.le_refl _) (.cells (pcP p (.slice sa s.length sc) (.slice ta t.length tc)) 26)
  go_enter Tryd.func8, Tryd.ntmps8
  refine wp_seq_k fun KK hK => ?_
  have HK := TW.hide hK
  clear hK
  go_wp2
  refine HK.out _ _ ?_
  clear HK KK
  change Code.wp _ _ _ _ (w.alloc (.cells (pcP p (.slice sa s.length sc) (.slice ta t.length tc)) 26))
  generalize w.alloc (.cells (pcP p (.slice sa s.length sc) (.slice ta t.length tc)) 26) = W at n0 b0 ⊢
  generalize hB : w.heap.size = B at *
  have N0 := TW.hide n0
  have B0 := TW.hide b0
  have HBB := TW.hide hB
  clear n0 b0 hB
  refine wp_seq_k fun KK hK => ?_
  have HK := TW.hide hK
  clear hK
  go_wp2_with (refine wpList_val (.agg (pcP p (.slice sa s.length sc) (.slice ta t.length tc))) (by rfl) (exec_load_row' 26 _ (by rfl) (B) (by rfl) 26 (pcP p (.slice sa s.length sc) (.slice ta t.length tc)) (0, 0) _ N0.out Tryd.underlying26 rfl (info31 _ _ _)) ?_)
  refine (HN.out _ B0.out).mono ?_
  rintro e w1 ⟨a1, c1, a2, c2, rfl, pa, pb, hb⟩
  have B1 : Hid (Below B w w1) := below_row B0.out hb (by have := blk_lt N0.out; omega)
  clear hb N0 B0
  go_wp2_with (first | (refine wpList_store_row (by rfl) 26 _ _ (by rfl) (w1.heap.size) (pcP p (.slice a1 S.length c1) (.slice a2 T.length c2)) (by rfl) (by rfl) 26 _ (heap_new w1 _) (info31 _ _ _) (pc_size Pm.zero _ _ _ _ _) (pc_one _ _ _ _ _ _ _) ?_))
  have nx := setRow_heap _ _ _ (pcP p (.slice a1 S.length c1) (.slice a2 T.length c2)) _ _ (heap_new w1 (.cells #[.int .i64 0, .int .i64 0, .int .i64 0, .int .i64 0, .int .u32 0, .int .u64 0, .int .u32 0, .int .i64 0, .int .i64 0, .slice none 0 0, .slice none 0 0] 26))
  have bx := below_setRow (cs := (pcP p (.slice a1 S.length c1) (.slice a2 T.length c2))) ((Below.refl w1.heap.size w1).alloc (Nat.le_refl _) (.cells #[.int .i64 0, .int .i64 0, .int .i64 0, .int .i64 0, .int .u32 0, .int .u64 0, .int .u32 0, .int .i64 0, .int .i64 0, .slice none 0 0, .slice none 0 0] 26)) (g := w1.heap.size) (Nat.le_refl _)
  generalize (w1.alloc (.cells #[.int .i64 0, .int .i64 0, .int .i64 0, .int .i64 0, .int .u32 0, .int .u64 0, .int .u32 0, .int .i64 0, .int .i64 0, .slice none 0 0, .slice none 0 0] 26)).setRow w1.heap.size (pcP p (.slice a1 S.length c1) (.slice a2 T.length c2)) = X1 at nx bx ⊢
  have B2 : Hid (Below B w X1) := below_row B1.out bx (by have := B1.out.size; have := HBB.out; omega)
  have PA := TW.hide (pa.below bx)
  have PB := TW.hide (pb.below bx)
  have N6 := TW.hide nx
  have hg6 : w1.heap.size < X1.heap.size := blk_lt nx
  clear nx bx B1 pa pb
  generalize w1.heap.size = g6 at *
  refine HK.out _ _ ?_
  clear HK KK
  obtain ⟨q0, q1, q2, q3, q4, q5, q6, q7, q8, q9, q10, z0, z1, z2, z3, z4, z5, z6, z7, z8, z9, z10⟩ := cells11 (show X1.heap[g6]? = some (.cells #[.int .i64 p.d, .int .i64 p.k, .int .i64 p.f, .int .i64 p.dp, .int .u32 p.lf, .int .u64 p.off, .int .u32 p.xof, .int .i64 p.nd, .int .i64 p.inn, .slice a1 S.length c1, .slice a2 T.length c2] 26 (0, 0)) from N6.out)
  clear z0 z1 z2 z3 z4 z5 z6 z7 z8 z9 z10 q9 q10
  have nv := heap_new X1 (.cells #[.int .u64 p.d, .int .u64 p.k, .int .u64 p.f, .int .u64 p.dp, .int .u64 p.lf, .int .u64 p.off, .int .u64 p.xof, .int .u64 p.nd, .int .u64 p.inn] 23)
  have bv := (Below.refl X1.heap.size X1).alloc (Nat.le_refl _) (.cells #[.int .u64 p.d, .int .u64 p.k, .int .u64 p.f, .int .u64 p.dp, .int .u64 p.lf, .int .u64 p.off, .int .u64 p.xof, .int .u64 p.nd, .int .u64 p.inn] 23)
  have hX2 : (X1.alloc (.cells #[.int .u64 p.d, .int .u64 p.k, .int .u64 p.f, .int .u64 p.dp, .int .u64 p.lf, .int .u64 p.off, .int .u64 p.xof, .int .u64 p.nd, .int .u64 p.inn] 23)).heap.size = X1.heap.size + 1 := by simp
  have nu := heap_new (X1.alloc (.cells #[.int .u64 p.d, .int .u64 p.k, .int .u64 p.f, .int .u64 p.dp, .int .u64 p.lf, .int .u64 p.off, .int .u64 p.xof, .int .u64 p.nd, .int .u64 p.inn] 23)) (.cells #[.int .u64 m, .int .u64 0, .int .u64 1, .int .u64 1, .int .u64 0, .int .u64 0, .int .u64 0, .int .u64 0, .int .u64 0] 23)
  have bu := (Below.refl (X1.alloc (.cells #[.int .u64 p.d, .int .u64 p.k, .int .u64 p.f, .int .u64 p.dp, .int .u64 p.lf, .int .u64 p.off, .int .u64 p.xof, .int .u64 p.nd, .int .u64 p.inn] 23)).heap.size (X1.alloc (.cells #[.int .u64 p.d, .int .u64 p.k, .int .u64 p.f, .int .u64 p.dp, .int .u64 p.lf, .int .u64 p.off, .int .u64 p.xof, .int .u64 p.nd, .int .u64 p.inn] 23))).alloc (Nat.le_refl _) (.cells #[.int .u64 m, .int .u64 0, .int .u64 1, .int .u64 1, .int .u64 0, .int .u64 0, .int .u64 0, .int .u64 0, .int .u64 0] 23)
  rw [hX2] at nu bu
  have HNV := TW.hide nv
  have HBV := TW.hide bv
  have HNU := TW.hide nu
  have HBU := TW.hide bu
  have HX2 := TW.hide hX2
  clear nv bv nu bu hX2
  have hkd : ((kd == 2) = true ∧ knL kd = [50, 115]) ∨ ((kd == 2) = false ∧ knL kd = [50, 98]) := by
    rw [HKN.out]
    rcases hk with rfl | rfl
    · exact .inr ⟨rfl, rfl⟩
    · exact .inl ⟨rfl, rfl⟩
  rcases hkd with ⟨hk2, hkn⟩ | ⟨hk2, hkn⟩
  · have HTX : Hid (({ data := #[50, 115] } : ByteArray) = strOfNums (lnL kd p S T 0)) := by
      show _ = strOfNums (knL kd)
      rw [hkn]; rfl
    clear hkn
    go_wp2_with fail
    refine (HMO.out _).mono ?_
    rintro e w2 ⟨rfl, rfl⟩
    go_wp2
    have NV5 := blk_alloc (o' := .cells #[.int .u64 m, .int .u64 0, .int .u64 1, .int .u64 1, .int .u64 0, .int .u64 0, .int .u64 0, .int .u64 0, .int .u64 0] 23) HNV.out
    have NU5 := HNU.out
    have N65 := blk_alloc (o' := .cells #[.int .u64 m, .int .u64 0, .int .u64 1, .int .u64 1, .int .u64 0, .int .u64 0, .int .u64 0, .int .u64 0, .int .u64 0] 23) (blk_alloc (o' := .cells #[.int .u64 p.d, .int .u64 p.k, .int .u64 p.f, .int .u64 p.dp, .int .u64 p.lf, .int .u64 p.off, .int .u64 p.xof, .int .u64 p.nd, .int .u64 p.inn] 23) N6.out)
    have BX5 : Below X1.heap.size X1 ((X1.alloc (.cells #[.int .u64 p.d, .int .u64 p.k, .int .u64 p.f, .int .u64 p.dp, .int .u64 p.lf, .int .u64 p.off, .int .u64 p.xof, .int .u64 p.nd, .int .u64 p.inn] 23)).alloc (.cells #[.int .u64 m, .int .u64 0, .int .u64 1, .int .u64 1, .int .u64 0, .int .u64 0, .int .u64 0, .int .u64 0, .int .u64 0] 23)) := HBV.out.trans (HBU.out.mono (by omega))
    have hs5 : X1.heap.size + 1 < ((X1.alloc (.cells #[.int .u64 p.d, .int .u64 p.k, .int .u64 p.f, .int .u64 p.dp, .int .u64 p.lf, .int .u64 p.off, .int .u64 p.xof, .int .u64 p.nd, .int .u64 p.inn] 23)).alloc (.cells #[.int .u64 m, .int .u64 0, .int .u64 1, .int .u64 1, .int .u64 0, .int .u64 0, .int .u64 0, .int .u64 0, .int .u64 0] 23)).heap.size := by simp
    clear HNV HNU HBV HBU HX2 q0 q1 q2 q3 q4 q5 q6 q7 q8 u1 u2 u3 u4 u5 u7 u8 u9 um
    generalize (X1.alloc (.cells #[.int .u64 p.d, .int .u64 p.k, .int .u64 p.f, .int .u64 p.dp, .int .u64 p.lf, .int .u64 p.off, .int .u64 p.xof, .int .u64 p.nd, .int .u64 p.inn] 23)).alloc (.cells #[.int .u64 m, .int .u64 0, .int .u64 1, .int .u64 1, .int .u64 0, .int .u64 0, .int .u64 0, .int .u64 0, .int .u64 0] 23) = X5 at NV5 NU5 N65 BX5 hs5 ⊢
    have PA5 := TW.hide (PA.out.below BX5)
    have PB5 := TW.hide (PB.out.below BX5)
    have BW5 : Hid (Below B w X5) := below_row B2.out BX5 (by have := B2.out.size; have := HBB.out; omega)
    have HBx : Hid (B ≤ X5.heap.size) := by have := BW5.out.size; have := HBB.out; show _ ≤ _; omega
    have NVa := TW.hide NV5
    have NUa := TW.hide NU5
    have N6a := TW.hide N65
    clear NV5 NU5 N65 BX5 PA PB N6 B2
    generalize X1.heap.size = gv at *
    -- what holds in every world behind
    have HW : Hid (∀ W : World, Below X5.heap.size X5 W → (∀ j : Nat, j < 9 → W.cell? ⟨gv, j, none⟩ = some (.int .u64 (p.nv ((j : Int) + 1))) ∧ W.cell? ⟨gv + 1, j, none⟩ = some (.int .u64 ((usP kd).nv ((j : Int) + 1)))) ∧ Pb W a1 c1 S ∧ Pb W a2 c2 T ∧ W.cell? ⟨g6, 9, none⟩ = some (.slice a1 S.length c1) ∧ W.cell? ⟨g6, 10, none⟩ = some (.slice a2 T.length c2) ∧ Below B w W) := fun W h => by
      refine ⟨fun j hj => ⟨blk_cell (blk_keep NVa.out h) (nv_list p j hj), ?_⟩, PA5.out.below h, PB5.out.below h, blk_cell (i := 9) (blk_keep N6a.out h) rfl, blk_cell (i := 10) (blk_keep N6a.out h) rfl, below_row BW5.out h HBx.out⟩
      refine blk_cell (blk_keep NUa.out h) ?_
      rw [HUS.out]
      exact nv_list ⟨m, 0, 1, 1, 0, 0, 0, 0, 0⟩ j hj
    rw [HTX.out]
    clear NVa NUa N6a PA5 PB5 BW5 HTX HN HMO
    go_loopw [8, 11] (fun t8 t11 wr => ∃ k : Nat, k ≤ 9 ∧ t11 = .int .i64 ((k : Int) + 1) ∧ t8 = .string (strOfNums (lnL kd p S T k)) ∧ Below X5.heap.size X5 wr) (fun _ t11 _ => (10 - intOf t11).toNat)
    case atStart => exact ⟨0, by omega, rfl, rfl, Below.refl _ _⟩
    case round =>
      rename_i Q1 K1 a1_
      obtain ⟨k, hk9, rfl, rfl, hbx⟩ := hrel
      by_cases hlt : k < 9
      · obtain ⟨hvu, hpa, hpb, _, _, _⟩ := HW.out wr hbx
        obtain ⟨cv, cu⟩ := hvu k hlt
        have BX := TW.hide hbx
        clear hvu hpa hpb hbx
        have hkI : (k : Int) + 1 ≤ 9 := by omega
        have hk0 : (0 : Int) ≤ (k : Int) := by omega
        have hk8 : (k : Int) < 9 := by omega
        have hub := HUSB.out ((k : Int) + 1) (by omega) (by omega)
        have hnb := HNVB.out ((k : Int) + 1) (by omega) (by omega)
        have hlE := @lnL_eq kd p S T k
        have hlN := @lnL_ne kd p S T k
        have HLE := TW.hide hlE
        have HLN := TW.hide hlN
        have hwd : wdL p S T ((k : Int) + 1) = [32] ++ nmL ((k : Int) + 1) ++ [61] ++ dcs (p.nv ((k : Int) + 1)).toNat := by
          show [32] ++ nmL ((k : Int) + 1) ++ [61] ++ shV p S T ((k : Int) + 1) = _
          rw [shV, if_neg (by omega), if_neg (by omega)]
        have HWD := TW.hide hwd
        have HLL := TW.hide (HLEN.out k (by omega))
        have HNL := TW.hide (nmL_len ((k : Int) + 1))
        have HUB := TW.hide hub
        obtain ⟨v1, hv1⟩ : ∃ v1 : Nat, p.nv ((k : Int) + 1) = v1 := ⟨(p.nv ((k : Int) + 1)).toNat, by omega⟩
        rw [hv1] at cv
        have HV1 := TW.hide hv1
        have hv64 : v1 < 18446744073709551616 := by omega
        have HDL := TW.hide (dcs_len64 v1 hv64)
        have HNA := TW.hide (fun W => rname ((k : Int) + 1) (by omega) (by omega) W)
        have HDI := TW.hide (fun W => rdigits v1 hv64 W)
        clear hlE hlN hwd hub hnb hv1
        generalize (usP kd).nv ((k : Int) + 1) = v2 at *
        by_cases hv : (v1 : Int) = v2
        · have hus : usB kd p S T ((k : Int) + 1) = true := by rw [HUB.out, HV1.out]; simp [hv]
          have HL1 := TW.hide (HLE.out hus)
          have hne : ((v1 : Int) != v2) = false := by simp [hv]
          clear hus hv
          go_wp2
          go_quiet (fail)
          go_wp2
          go_roundw
          case rel => exact ⟨k + 1, by omega, by go_num, by rw [HL1.out], below_drewN BX.out nq⟩
          case measure => simp [intOf]; omega
        · have hus : usB kd p S T ((k : Int) + 1) = false := by rw [HUB.out, HV1.out]; simp [hv]
          have HL1 := TW.hide (HLN.out hus)
          have hne : ((v1 : Int) != v2) = true := by simp [hv]
          clear hus hv
          go_wp2
          go_quiet (fail)
          go_wp2
          have BX' := below_drewN BX.out nq
          have cv' : (wr.drewN nq).cell? ⟨gv, k, none⟩ = some (.int .u64 (v1 : Int)) := cv
          clear cv cu BX
          generalize wr.drewN nq = wq at BX' cv' ⊢
          have BQ := TW.hide BX'
          clear BX'
          obtain ⟨L0, hL0⟩ : ∃ L0, L0 = strOfNums (lnL kd p S T k) := ⟨_, rfl⟩
          obtain ⟨L1, hL1⟩ : ∃ L1, L1 = strOfNums (nmL ((k : Int) + 1) ++ [61]) := ⟨_, rfl⟩
          obtain ⟨L2, hL2⟩ : ∃ L2, L2 = strOfNums (dcs v1) := ⟨_, rfl⟩
          obtain ⟨A1, hA1⟩ : ∃ A1, A1 = L0 ++ ({ data := #[32] } : ByteArray) := ⟨_, rfl⟩
          obtain ⟨A2, hA2⟩ : ∃ A2, A2 = A1 ++ L1 := ⟨_, rfl⟩
          obtain ⟨A3, hA3⟩ : ∃ A3, A3 = A2 ++ L2 := ⟨_, rfl⟩
          have hA1' : A1 = strOfNums ((lnL kd p S T k) ++ [32]) := by rw [hA1, hL0, ← strOf_append (lnL kd p S T k)]; rfl
          have hA2' : A2 = strOfNums ((lnL kd p S T k) ++ [32] ++ (nmL ((k : Int) + 1) ++ [61])) := by rw [hA2, hA1', hL1, strOf_append]
          have hA3' : A3 = strOfNums ((lnL kd p S T k) ++ [32] ++ (nmL ((k : Int) + 1) ++ [61]) ++ (dcs v1)) := by rw [hA3, hA2', hL2, strOf_append]
          have z1 : ¬ 9223372036854775807 < L0.size + ({ data := #[32] } : ByteArray).size := by
            have h1 : ({ data := #[32] } : ByteArray).size = 1 := rfl
            have := HLL.out
            rw [h1, hL0, strOf_size]; omega
          have z1' : ¬ 9223372036854775807 < L0.size + 1 := by
            have := HLL.out
            rw [hL0, strOf_size]; omega
          have z2 : ¬ 9223372036854775807 < A1.size + L1.size := by
            have := HLL.out
            have := HNL.out
            rw [hA1', hL1, strOf_size, strOf_size]; simp; omega
          have z3 : ¬ 9223372036854775807 < A2.size + L2.size := by
            have := HLL.out
            have := HNL.out
            have := HDL.out
            rw [hA2', hL2, strOf_size, strOf_size]; simp; omega
          have HA3 := TW.hide hA3'
          rw [← hL0]
          rw [← hL1] at HNA
          rw [← hL2] at HDI
          have e1 := hA1.symm
          have e2 := hA2.symm
          have e3 := hA3.symm
          clear hA1 hA2 hA3 hA1' hA2' hA3' hL0 hL1 hL2
          have hwk : IntKind.i64.wrap (k : Int) = (k : Int) := by rw [IntKind.wrap_i64]; omega
          have hkN : (k : Int).toNat = k := by omega
          refine wp_region_noPanic ?_
          refine RG.wp_region_L (fun Z => True) (fun Z => Below X5.heap.size X5 Z) [] (by kernel_rfl) ?_
          refine RG.wpL_any fun Yap hY => ?_
          have HTap : Hid (Below X5.heap.size X5 Yap) := by rw [hY]; exact below_drewN BQ.out 1
          clear hY
          refine RG.wpL_take (fuel := 5) (a' := ?Aap) [0, 1, 2, 5, 6, 7, 8, 9] (by kernel_rfl) (by kernel_rfl) (fun _ _ _ _ _ h => h) HTap.out (fun _ => trivial) ?rap ?_
          case rap =>
            refine RG.RunsIf.weak (v := ?_) (by rfl) (by rfl) (fun Z hT => ?_) ?_
            rotate_left
            · go_simp
              rfl
            simp only [Act.put, List.setIfInBounds_toArray, List.set_cons_zero, List.set_cons_succ, List.getElem_toArray, List.getElem_cons_zero, List.getElem_cons_succ]
            refine RG.RunsIf.weak (v := ?_) (by rfl) (by rfl) (fun Z hT => ?_) ?_
            rotate_left
            · go_simp
              rfl
            simp only [Act.put, List.setIfInBounds_toArray, List.set_cons_zero, List.set_cons_succ, List.getElem_toArray, List.getElem_cons_zero, List.getElem_cons_succ]
            refine RG.RunsIf.weak (v := ?_) (by rfl) (by rfl) (fun Z hT => ?_) ?_
            rotate_left
            · go_simp
              rfl
            simp only [Act.put, List.setIfInBounds_toArray, List.set_cons_zero, List.set_cons_succ, List.getElem_toArray, List.getElem_cons_zero, List.getElem_cons_succ]
            refine RG.RunsIf.weak (v := ?_) (by rfl) (by rfl) (fun Z hT => ?_) ?_
            rotate_left
            · go_simp
              rfl
            simp only [Act.put, List.setIfInBounds_toArray, List.set_cons_zero, List.set_cons_succ, List.getElem_toArray, List.getElem_cons_zero, List.getElem_cons_succ]
            refine RG.RunsIf.weak (v := ?_) (by rfl) (by rfl) (fun Z hT => ?_) ?_
            rotate_left
            · go_simp
              rfl
            simp only [Act.put, List.setIfInBounds_toArray, List.set_cons_zero, List.set_cons_succ, List.getElem_toArray, List.getElem_cons_zero, List.getElem_cons_succ]
            refine RG.RunsIf.weak (v := ?_) (by rfl) (by rfl) (fun Z hT => ?_) ?_
            rotate_left
            · go_simp
              rfl
            simp only [Act.put, List.setIfInBounds_toArray, List.set_cons_zero, List.set_cons_succ, List.getElem_toArray, List.getElem_cons_zero, List.getElem_cons_succ]
            refine RG.RunsIf.weak (v := ?_) (by rfl) (by rfl) (fun Z hT => ?_) ?_
            rotate_left
            · go_simp
              rfl
            simp only [Act.put, List.setIfInBounds_toArray, List.set_cons_zero, List.set_cons_succ, List.getElem_toArray, List.getElem_cons_zero, List.getElem_cons_succ]
            refine RG.RunsIf.weak (v := ?_) (by rfl) (by rfl) (fun Z hT => ?_) ?_
            rotate_left
            · have cz := ((HW.out Z hT).1 k hlt).1
              rw [HV1.out] at cz
              go_simp
              rfl
            simp only [Act.put, List.setIfInBounds_toArray, List.set_cons_zero, List.set_cons_succ, List.getElem_toArray, List.getElem_cons_zero, List.getElem_cons_succ]
            exact RG.RunsIf.nil
          refine RG.wpL_step (i := 3) (by kernel_rfl) (by rfl) (by rfl) (fun KX hK => ?_)
          have HK := TW.hide hK
          clear hK
          go_simp
          refine (HNA.out _).mono ?_
          rintro e w' ⟨rfl, rfl⟩
          refine HK.out _ _ HTap.out (fun _ => trivial) ?_
          clear HK KX
          try simp only [Act.put, List.setIfInBounds_toArray, List.set_cons_zero, List.set_cons_succ, List.getElem_toArray, List.getElem_cons_zero, List.getElem_cons_succ]
          refine RG.wpL_take (fuel := 3) (a' := ?Acp) [4] (by kernel_rfl) (by kernel_rfl) (fun _ _ _ _ _ h => h) HTap.out (fun _ => trivial) ?rcp ?_
          case rcp =>
            refine RG.RunsIf.weak (v := ?_) (by rfl) (by rfl) (fun Z hT => ?_) ?_
            rotate_left
            · go_simp
              rfl
            simp only [Act.put, List.setIfInBounds_toArray, List.set_cons_zero, List.set_cons_succ, List.getElem_toArray, List.getElem_cons_zero, List.getElem_cons_succ]
            exact RG.RunsIf.nil
          refine RG.wpL_step (i := 10) (by kernel_rfl) (by rfl) (by rfl) (fun KX hK => ?_)
          have HK := TW.hide hK
          clear hK
          go_simp
          refine (HDI.out _).mono ?_
          rintro e w3 ⟨rfl, hb2⟩
          have HTe : Hid (Below X5.heap.size X5 w3) := below_row HTap.out hb2 HTap.out.size
          refine HK.out _ _ HTe.out (fun _ => trivial) ?_
          clear HK KX hb2 HTap
          try simp only [Act.put, List.setIfInBounds_toArray, List.set_cons_zero, List.set_cons_succ, List.getElem_toArray, List.getElem_cons_zero, List.getElem_cons_succ]
          refine RG.wpL_take (fuel := 0) (a' := ?Abp) [11, 12] (by kernel_rfl) (by kernel_rfl) (fun _ _ _ _ _ h => h) HTe.out (fun _ => trivial) ?rbp ?_
          case rbp =>
            refine RG.RunsIf.weak (v := ?_) (by rfl) (by rfl) (fun Z hT => ?_) ?_
            rotate_left
            · go_simp
              rfl
            simp only [Act.put, List.setIfInBounds_toArray, List.set_cons_zero, List.set_cons_succ, List.getElem_toArray, List.getElem_cons_zero, List.getElem_cons_succ]
            refine RG.RunsIf.weak (v := ?_) (by rfl) (by rfl) (fun Z hT => ?_) ?_
            rotate_left
            · go_simp
              rfl
            simp only [Act.put, List.setIfInBounds_toArray, List.set_cons_zero, List.set_cons_succ, List.getElem_toArray, List.getElem_cons_zero, List.getElem_cons_succ]
            exact RG.RunsIf.nil
          refine RG.wpL_done (by kernel_rfl) ?_ _
          refine NoPanic.normal ?_
          go_wp2
          go_roundw
          case rel => exact ⟨k + 1, by omega, by go_num, by rw [HA3.out, HL1.out, HWD.out, HV1.out]; simp, HTe.out⟩
          case measure => simp [intOf]; omega
      · obtain rfl : k = 9 := by omega
        have HA := TW.hide a1_
        clear a1_
        have BX := TW.hide hbx
        clear hbx
        go_wp2
        refine HA.out _ _ ?_
        clear HA
        have cep9 := (HW.out _ BX.out).2.2.2.1
        by_cases hlp9 : S.length = 0
        · have hus : usB kd p S T ((9 : Nat) + 1 : Int) = true := by
            show usB kd p S T 10 = true
            rw [usB_salt]; simp [hlp9]
          have HLp9 := TW.hide (lnL_eq (k := 9) hus)
          have hz : ¬ (0 : Int) < ((S.length : Nat) : Int) := by omega
          rw [← HLp9.out]
          clear hus
          refine wp_seq_k fun KK hK => ?_
          have HK := TW.hide hK
          clear hK
          go_wp2
          refine HK.out _ _ ?_
          clear HK KK
          have cep9x10 := (HW.out _ BX.out).2.2.2.2.1
          by_cases hlp9x10 : T.length = 0
          · have hus : usB kd p S T ((10 : Nat) + 1 : Int) = true := by
              show usB kd p S T 11 = true
              rw [usB_pers]; simp [hlp9x10]
            have HLp9x10 := TW.hide (lnL_eq (k := 10) hus)
            have hz : ¬ (0 : Int) < ((T.length : Nat) : Int) := by omega
            rw [← HLp9x10.out]
            clear hus
            refine wp_seq_k fun KK hK => ?_
            have HK := TW.hide hK
            clear hK
            go_wp2
            refine HK.out _ _ ?_
            clear HK KK
            go_wp2
            go_ret2
            exact ⟨rfl, (HW.out _ BX.out).2.2.2.2.2⟩
          · have hus : usB kd p S T ((10 : Nat) + 1 : Int) = false := by
              show usB kd p S T 11 = false
              rw [usB_pers]; simpa using hlp9x10
            have HLp9x10 := TW.hide (lnL_ne (k := 10) hus)
            have hz : (0 : Int) < ((T.length : Nat) : Int) := by omega
            have HWD : Hid (wdL p S T ((10 : Nat) + 1 : Int) = [32] ++ nmL 11 ++ [61] ++ hx T) := rfl
            have HLL := TW.hide (HLEN.out 10 (by omega))
            have HNL := TW.hide (nmL_len 11)
            have HDL : Hid ((hx T).length ≤ 128) := by show _ ≤ _; rw [hx_length]; omega
            have HNA := TW.hide (fun W => rname 11 (by omega) (by omega) W)
            have HDI := TW.hide (fun W (h : Pb W a2 c2 T) => rhex a2 c2 T W h.byt h.row (by omega))
            clear hus
            refine wp_seq_k fun KK hK => ?_
            have HKK := TW.hide hK
            clear hK
            go_wp2
            obtain ⟨L0, hL0⟩ : ∃ L0, L0 = strOfNums (lnL kd p S T 10) := ⟨_, rfl⟩
            obtain ⟨L1, hL1⟩ : ∃ L1, L1 = strOfNums (nmL 11 ++ [61]) := ⟨_, rfl⟩
            obtain ⟨L2, hL2⟩ : ∃ L2, L2 = strOfNums (hx T) := ⟨_, rfl⟩
            obtain ⟨A1, hA1⟩ : ∃ A1, A1 = L0 ++ ({ data := #[32] } : ByteArray) := ⟨_, rfl⟩
            obtain ⟨A2, hA2⟩ : ∃ A2, A2 = A1 ++ L1 := ⟨_, rfl⟩
            obtain ⟨A3, hA3⟩ : ∃ A3, A3 = A2 ++ L2 := ⟨_, rfl⟩
            have hA1' : A1 = strOfNums ((lnL kd p S T 10) ++ [32]) := by rw [hA1, hL0, ← strOf_append (lnL kd p S T 10)]; rfl
            have hA2' : A2 = strOfNums ((lnL kd p S T 10) ++ [32] ++ (nmL 11 ++ [61])) := by rw [hA2, hA1', hL1, strOf_append]
            have hA3' : A3 = strOfNums ((lnL kd p S T 10) ++ [32] ++ (nmL 11 ++ [61]) ++ (hx T)) := by rw [hA3, hA2', hL2, strOf_append]
            have z1 : ¬ 9223372036854775807 < L0.size + ({ data := #[32] } : ByteArray).size := by
              have h1 : ({ data := #[32] } : ByteArray).size = 1 := rfl
              have := HLL.out
              rw [h1, hL0, strOf_size]; omega
            have z1' : ¬ 9223372036854775807 < L0.size + 1 := by
              have := HLL.out
              rw [hL0, strOf_size]; omega
            have z2 : ¬ 9223372036854775807 < A1.size + L1.size := by
              have := HLL.out
              have := HNL.out
              rw [hA1', hL1, strOf_size, strOf_size]; simp; omega
            have z3 : ¬ 9223372036854775807 < A2.size + L2.size := by
              have := HLL.out
              have := HNL.out
              have := HDL.out
              rw [hA2', hL2, strOf_size, strOf_size]; simp; omega
            have HA3 := TW.hide hA3'
            rw [← hL0]
            rw [← hL1] at HNA
            rw [← hL2] at HDI
            have e1 := hA1.symm
            have e2 := hA2.symm
            have e3 := hA3.symm
            clear hA1 hA2 hA3 hA1' hA2' hA3' hL0 hL1 hL2
            refine wp_region_noPanic ?_
            refine RG.wp_region_L (fun Z => True) (fun Z => Below X5.heap.size X5 Z) [] (by kernel_rfl) ?_
            refine RG.wpL_any fun Yap9x10 hY => ?_
            have HTap9x10 : Hid (Below X5.heap.size X5 Yap9x10) := by rw [hY]; exact below_drewN BX.out 1
            clear hY
            refine RG.wpL_take (fuel := 5) (a' := ?Aap9x10) [0, 1, 4, 5] (by kernel_rfl) (by kernel_rfl) (fun _ _ _ _ _ h => h) HTap9x10.out (fun _ => trivial) ?rap9x10 ?_
            case rap9x10 =>
              refine RG.RunsIf.weak (v := ?_) (by rfl) (by rfl) (fun Z hT => ?_) ?_
              rotate_left
              · go_simp
                rfl
              simp only [Act.put, List.setIfInBounds_toArray, List.set_cons_zero, List.set_cons_succ, List.getElem_toArray, List.getElem_cons_zero, List.getElem_cons_succ]
              refine RG.RunsIf.weak (v := ?_) (by rfl) (by rfl) (fun Z hT => ?_) ?_
              rotate_left
              · go_simp
                rfl
              simp only [Act.put, List.setIfInBounds_toArray, List.set_cons_zero, List.set_cons_succ, List.getElem_toArray, List.getElem_cons_zero, List.getElem_cons_succ]
              refine RG.RunsIf.weak (v := ?_) (by rfl) (by rfl) (fun Z hT => ?_) ?_
              rotate_left
              · go_simp
                rfl
              simp only [Act.put, List.setIfInBounds_toArray, List.set_cons_zero, List.set_cons_succ, List.getElem_toArray, List.getElem_cons_zero, List.getElem_cons_succ]
              refine RG.RunsIf.weak (v := ?_) (by rfl) (by rfl) (fun Z hT => ?_) ?_
              rotate_left
              · have cz := (HW.out Z hT).2.2.2.2.1
                go_simp
                rfl
              simp only [Act.put, List.setIfInBounds_toArray, List.set_cons_zero, List.set_cons_succ, List.getElem_toArray, List.getElem_cons_zero, List.getElem_cons_succ]
              exact RG.RunsIf.nil
            refine RG.wpL_step (i := 2) (by kernel_rfl) (by rfl) (by rfl) (fun KX hK => ?_)
            have HK := TW.hide hK
            clear hK
            go_simp
            refine (HNA.out _).mono ?_
            rintro e w' ⟨rfl, rfl⟩
            refine HK.out _ _ HTap9x10.out (fun _ => trivial) ?_
            clear HK KX
            try simp only [Act.put, List.setIfInBounds_toArray, List.set_cons_zero, List.set_cons_succ, List.getElem_toArray, List.getElem_cons_zero, List.getElem_cons_succ]
            refine RG.wpL_take (fuel := 3) (a' := ?Acp9x10) [3] (by kernel_rfl) (by kernel_rfl) (fun _ _ _ _ _ h => h) HTap9x10.out (fun _ => trivial) ?rcp9x10 ?_
            case rcp9x10 =>
              refine RG.RunsIf.weak (v := ?_) (by rfl) (by rfl) (fun Z hT => ?_) ?_
              rotate_left
              · go_simp
                rfl
              simp only [Act.put, List.setIfInBounds_toArray, List.set_cons_zero, List.set_cons_succ, List.getElem_toArray, List.getElem_cons_zero, List.getElem_cons_succ]
              exact RG.RunsIf.nil
            refine RG.wpL_step (i := 6) (by kernel_rfl) (by rfl) (by rfl) (fun KX hK => ?_)
            have HK := TW.hide hK
            clear hK
            go_simp
            refine (HDI.out _ ((HW.out _ HTap9x10.out).2.2.1)).mono ?_
            rintro e w3p9x10 ⟨rfl, hb2⟩
            have HTep9x10 : Hid (Below X5.heap.size X5 w3p9x10) := below_row HTap9x10.out hb2 HTap9x10.out.size
            refine HK.out _ _ HTep9x10.out (fun _ => trivial) ?_
            clear HK KX hb2 HTap9x10
            try simp only [Act.put, List.setIfInBounds_toArray, List.set_cons_zero, List.set_cons_succ, List.getElem_toArray, List.getElem_cons_zero, List.getElem_cons_succ]
            refine RG.wpL_take (fuel := 0) (a' := ?Abp9x10) [7, 8] (by kernel_rfl) (by kernel_rfl) (fun _ _ _ _ _ h => h) HTep9x10.out (fun _ => trivial) ?rbp9x10 ?_
            case rbp9x10 =>
              refine RG.RunsIf.weak (v := ?_) (by rfl) (by rfl) (fun Z hT => ?_) ?_
              rotate_left
              · go_simp
                rfl
              simp only [Act.put, List.setIfInBounds_toArray, List.set_cons_zero, List.set_cons_succ, List.getElem_toArray, List.getElem_cons_zero, List.getElem_cons_succ]
              refine RG.RunsIf.weak (v := ?_) (by rfl) (by rfl) (fun Z hT => ?_) ?_
              rotate_left
              · go_simp
                rfl
              simp only [Act.put, List.setIfInBounds_toArray, List.set_cons_zero, List.set_cons_succ, List.getElem_toArray, List.getElem_cons_zero, List.getElem_cons_succ]
              exact RG.RunsIf.nil
            refine RG.wpL_done (by kernel_rfl) ?_ _
            refine NoPanic.normal ?_
            go_wp2
            refine HKK.out _ _ ?_
            clear HKK KK
            have HA4 : Hid (A3 = strOfNums (lnL kd p S T 11)) := by
              show A3 = _
              rw [HA3.out, HLp9x10.out, HWD.out]; simp
            rw [HA4.out]
            clear e1 e2 e3 z1 z1' z2 z3 HA3 HNA HDI HLL HNL HDL HWD hz
            go_wp2
            go_ret2
            exact ⟨rfl, (HW.out _ HTep9x10.out).2.2.2.2.2⟩
        · have hus : usB kd p S T ((9 : Nat) + 1 : Int) = false := by
            show usB kd p S T 10 = false
            rw [usB_salt]; simpa using hlp9
          have HLp9 := TW.hide (lnL_ne (k := 9) hus)
          have hz : (0 : Int) < ((S.length : Nat) : Int) := by omega
          have HWD : Hid (wdL p S T ((9 : Nat) + 1 : Int) = [32] ++ nmL 10 ++ [61] ++ hx S) := rfl
          have HLL := TW.hide (HLEN.out 9 (by omega))
          have HNL := TW.hide (nmL_len 10)
          have HDL : Hid ((hx S).length ≤ 128) := by show _ ≤ _; rw [hx_length]; omega
          have HNA := TW.hide (fun W => rname 10 (by omega) (by omega) W)
          have HDI := TW.hide (fun W (h : Pb W a1 c1 S) => rhex a1 c1 S W h.byt h.row (by omega))
          clear hus
          refine wp_seq_k fun KK hK => ?_
          have HKK := TW.hide hK
          clear hK
          go_wp2
          obtain ⟨L0, hL0⟩ : ∃ L0, L0 = strOfNums (lnL kd p S T 9) := ⟨_, rfl⟩
          obtain ⟨L1, hL1⟩ : ∃ L1, L1 = strOfNums (nmL 10 ++ [61]) := ⟨_, rfl⟩
          obtain ⟨L2, hL2⟩ : ∃ L2, L2 = strOfNums (hx S) := ⟨_, rfl⟩
          obtain ⟨A1, hA1⟩ : ∃ A1, A1 = L0 ++ ({ data := #[32] } : ByteArray) := ⟨_, rfl⟩
          obtain ⟨A2, hA2⟩ : ∃ A2, A2 = A1 ++ L1 := ⟨_, rfl⟩
          obtain ⟨A3, hA3⟩ : ∃ A3, A3 = A2 ++ L2 := ⟨_, rfl⟩
          have hA1' : A1 = strOfNums ((lnL kd p S T 9) ++ [32]) := by rw [hA1, hL0, ← strOf_append (lnL kd p S T 9)]; rfl
          have hA2' : A2 = strOfNums ((lnL kd p S T 9) ++ [32] ++ (nmL 10 ++ [61])) := by rw [hA2, hA1', hL1, strOf_append]
          have hA3' : A3 = strOfNums ((lnL kd p S T 9) ++ [32] ++ (nmL 10 ++ [61]) ++ (hx S)) := by rw [hA3, hA2', hL2, strOf_append]
          have z1 : ¬ 9223372036854775807 < L0.size + ({ data := #[32] } : ByteArray).size := by
            have h1 : ({ data := #[32] } : ByteArray).size = 1 := rfl
            have := HLL.out
            rw [h1, hL0, strOf_size]; omega
          have z1' : ¬ 9223372036854775807 < L0.size + 1 := by
            have := HLL.out
            rw [hL0, strOf_size]; omega
          have z2 : ¬ 9223372036854775807 < A1.size + L1.size := by
            have := HLL.out
            have := HNL.out
            rw [hA1', hL1, strOf_size, strOf_size]; simp; omega
          have z3 : ¬ 9223372036854775807 < A2.size + L2.size := by
            have := HLL.out
            have := HNL.out
            have := HDL.out
            rw [hA2', hL2, strOf_size, strOf_size]; simp; omega
          have HA3 := TW.hide hA3'
          rw [← hL0]
          rw [← hL1] at HNA
          rw [← hL2] at HDI
          have e1 := hA1.symm
          have e2 := hA2.symm
          have e3 := hA3.symm
          clear hA1 hA2 hA3 hA1' hA2' hA3' hL0 hL1 hL2
          refine wp_region_noPanic ?_
          refine RG.wp_region_L (fun Z => True) (fun Z => Below X5.heap.size X5 Z) [] (by kernel_rfl) ?_
          refine RG.wpL_any fun Yap9 hY => ?_
          have HTap9 : Hid (Below X5.heap.size X5 Yap9) := by rw [hY]; exact below_drewN BX.out 1
          clear hY
          refine RG.wpL_take (fuel := 5) (a' := ?Aap9) [0, 1, 4, 5] (by kernel_rfl) (by kernel_rfl) (fun _ _ _ _ _ h => h) HTap9.out (fun _ => trivial) ?rap9 ?_
          case rap9 =>
            refine RG.RunsIf.weak (v := ?_) (by rfl) (by rfl) (fun Z hT => ?_) ?_
            rotate_left
            · go_simp
              rfl
            simp only [Act.put, List.setIfInBounds_toArray, List.set_cons_zero, List.set_cons_succ, List.getElem_toArray, List.getElem_cons_zero, List.getElem_cons_succ]
            refine RG.RunsIf.weak (v := ?_) (by rfl) (by rfl) (fun Z hT => ?_) ?_
            rotate_left
            · go_simp
              rfl
            simp only [Act.put, List.setIfInBounds_toArray, List.set_cons_zero, List.set_cons_succ, List.getElem_toArray, List.getElem_cons_zero, List.getElem_cons_succ]
            refine RG.RunsIf.weak (v := ?_) (by rfl) (by rfl) (fun Z hT => ?_) ?_
            rotate_left
            · go_simp
              rfl
            simp only [Act.put, List.setIfInBounds_toArray, List.set_cons_zero, List.set_cons_succ, List.getElem_toArray, List.getElem_cons_zero, List.getElem_cons_succ]
            refine RG.RunsIf.weak (v := ?_) (by rfl) (by rfl) (fun Z hT => ?_) ?_
            rotate_left
            · have cz := (HW.out Z hT).2.2.2.1
              go_simp
              rfl
            simp only [Act.put, List.setIfInBounds_toArray, List.set_cons_zero, List.set_cons_succ, List.getElem_toArray, List.getElem_cons_zero, List.getElem_cons_succ]
            exact RG.RunsIf.nil
          refine RG.wpL_step (i := 2) (by kernel_rfl) (by rfl) (by rfl) (fun KX hK => ?_)
          have HK := TW.hide hK
          clear hK
          go_simp
          refine (HNA.out _).mono ?_
          rintro e w' ⟨rfl, rfl⟩
          refine HK.out _ _ HTap9.out (fun _ => trivial) ?_
          clear HK KX
          try simp only [Act.put, List.setIfInBounds_toArray, List.set_cons_zero, List.set_cons_succ, List.getElem_toArray, List.getElem_cons_zero, List.getElem_cons_succ]
          refine RG.wpL_take (fuel := 3) (a' := ?Acp9) [3] (by kernel_rfl) (by kernel_rfl) (fun _ _ _ _ _ h => h) HTap9.out (fun _ => trivial) ?rcp9 ?_
          case rcp9 =>
            refine RG.RunsIf.weak (v := ?_) (by rfl) (by rfl) (fun Z hT => ?_) ?_
            rotate_left
            · go_simp
              rfl
            simp only [Act.put, List.setIfInBounds_toArray, List.set_cons_zero, List.set_cons_succ, List.getElem_toArray, List.getElem_cons_zero, List.getElem_cons_succ]
            exact RG.RunsIf.nil
          refine RG.wpL_step (i := 6) (by kernel_rfl) (by rfl) (by rfl) (fun KX hK => ?_)
          have HK := TW.hide hK
          clear hK
          go_simp
          refine (HDI.out _ ((HW.out _ HTap9.out).2.1)).mono ?_
          rintro e w3p9 ⟨rfl, hb2⟩
          have HTep9 : Hid (Below X5.heap.size X5 w3p9) := below_row HTap9.out hb2 HTap9.out.size
          refine HK.out _ _ HTep9.out (fun _ => trivial) ?_
          clear HK KX hb2 HTap9
          try simp only [Act.put, List.setIfInBounds_toArray, List.set_cons_zero, List.set_cons_succ, List.getElem_toArray, List.getElem_cons_zero, List.getElem_cons_succ]
          refine RG.wpL_take (fuel := 0) (a' := ?Abp9) [7, 8] (by kernel_rfl) (by kernel_rfl) (fun _ _ _ _ _ h => h) HTep9.out (fun _ => trivial) ?rbp9 ?_
          case rbp9 =>
            refine RG.RunsIf.weak (v := ?_) (by rfl) (by rfl) (fun Z hT => ?_) ?_
            rotate_left
            · go_simp
              rfl
            simp only [Act.put, List.setIfInBounds_toArray, List.set_cons_zero, List.set_cons_succ, List.getElem_toArray, List.getElem_cons_zero, List.getElem_cons_succ]
            refine RG.RunsIf.weak (v := ?_) (by rfl) (by rfl) (fun Z hT => ?_) ?_
            rotate_left
            · go_simp
              rfl
            simp only [Act.put, List.setIfInBounds_toArray, List.set_cons_zero, List.set_cons_succ, List.getElem_toArray, List.getElem_cons_zero, List.getElem_cons_succ]
            exact RG.RunsIf.nil
          refine RG.wpL_done (by kernel_rfl) ?_ _
          refine NoPanic.normal ?_
          go_wp2
          refine HKK.out _ _ ?_
          clear HKK KK
          have HA4 : Hid (A3 = strOfNums (lnL kd p S T 10)) := by
            show A3 = _
            rw [HA3.out, HLp9.out, HWD.out]; simp
          rw [HA4.out]
          clear e1 e2 e3 z1 z1' z2 z3 HA3 HNA HDI HLL HNL HDL HWD hz
          have cep9y10 := (HW.out _ HTep9.out).2.2.2.2.1
          by_cases hlp9y10 : T.length = 0
          · have hus : usB kd p S T ((10 : Nat) + 1 : Int) = true := by
              show usB kd p S T 11 = true
              rw [usB_pers]; simp [hlp9y10]
            have HLp9y10 := TW.hide (lnL_eq (k := 10) hus)
            have hz : ¬ (0 : Int) < ((T.length : Nat) : Int) := by omega
            rw [← HLp9y10.out]
            clear hus
            refine wp_seq_k fun KK hK => ?_
            have HK := TW.hide hK
            clear hK
            go_wp2
            refine HK.out _ _ ?_
            clear HK KK
            go_wp2
            go_ret2
            exact ⟨rfl, (HW.out _ HTep9.out).2.2.2.2.2⟩
          · have hus : usB kd p S T ((10 : Nat) + 1 : Int) = false := by
              show usB kd p S T 11 = false
              rw [usB_pers]; simpa using hlp9y10
            have HLp9y10 := TW.hide (lnL_ne (k := 10) hus)
            have hz : (0 : Int) < ((T.length : Nat) : Int) := by omega
            have HWD : Hid (wdL p S T ((10 : Nat) + 1 : Int) = [32] ++ nmL 11 ++ [61] ++ hx T) := rfl
            have HLL := TW.hide (HLEN.out 10 (by omega))
            have HNL := TW.hide (nmL_len 11)
            have HDL : Hid ((hx T).length ≤ 128) := by show _ ≤ _; rw [hx_length]; omega
            have HNA := TW.hide (fun W => rname 11 (by omega) (by omega) W)
            have HDI := TW.hide (fun W (h : Pb W a2 c2 T) => rhex a2 c2 T W h.byt h.row (by omega))
            clear hus
            refine wp_seq_k fun KK hK => ?_
            have HKK := TW.hide hK
            clear hK
            go_wp2
            obtain ⟨L0, hL0⟩ : ∃ L0, L0 = strOfNums (lnL kd p S T 10) := ⟨_, rfl⟩
            obtain ⟨L1, hL1⟩ : ∃ L1, L1 = strOfNums (nmL 11 ++ [61]) := ⟨_, rfl⟩
            obtain ⟨L2, hL2⟩ : ∃ L2, L2 = strOfNums (hx T) := ⟨_, rfl⟩
            obtain ⟨A1, hA1⟩ : ∃ A1, A1 = L0 ++ ({ data := #[32] } : ByteArray) := ⟨_, rfl⟩
            obtain ⟨A2, hA2⟩ : ∃ A2, A2 = A1 ++ L1 := ⟨_, rfl⟩
            obtain ⟨A3, hA3⟩ : ∃ A3, A3 = A2 ++ L2 := ⟨_, rfl⟩
            have hA1' : A1 = strOfNums ((lnL kd p S T 10) ++ [32]) := by rw [hA1, hL0, ← strOf_append (lnL kd p S T 10)]; rfl
            have hA2' : A2 = strOfNums ((lnL kd p S T 10) ++ [32] ++ (nmL 11 ++ [61])) := by rw [hA2, hA1', hL1, strOf_append]
            have hA3' : A3 = strOfNums ((lnL kd p S T 10) ++ [32] ++ (nmL 11 ++ [61]) ++ (hx T)) := by rw [hA3, hA2', hL2, strOf_append]
            have z1 : ¬ 9223372036854775807 < L0.size + ({ data := #[32] } : ByteArray).size := by
              have h1 : ({ data := #[32] } : ByteArray).size = 1 := rfl
              have := HLL.out
              rw [h1, hL0, strOf_size]; omega
            have z1' : ¬ 9223372036854775807 < L0.size + 1 := by
              have := HLL.out
              rw [hL0, strOf_size]; omega
            have z2 : ¬ 9223372036854775807 < A1.size + L1.size := by
              have := HLL.out
              have := HNL.out
              rw [hA1', hL1, strOf_size, strOf_size]; simp; omega
            have z3 : ¬ 9223372036854775807 < A2.size + L2.size := by
              have := HLL.out
              have := HNL.out
              have := HDL.out
              rw [hA2', hL2, strOf_size, strOf_size]; simp; omega
            have HA3 := TW.hide hA3'
            rw [← hL0]
            rw [← hL1] at HNA
            rw [← hL2] at HDI
            have e1 := hA1.symm
            have e2 := hA2.symm
            have e3 := hA3.symm
            clear hA1 hA2 hA3 hA1' hA2' hA3' hL0 hL1 hL2
            refine wp_region_noPanic ?_
            refine RG.wp_region_L (fun Z => True) (fun Z => Below X5.heap.size X5 Z) [] (by kernel_rfl) ?_
            refine RG.wpL_any fun Yap9y10 hY => ?_
            have HTap9y10 : Hid (Below X5.heap.size X5 Yap9y10) := by rw [hY]; exact below_drewN HTep9.out 1
            clear hY
            refine RG.wpL_take (fuel := 5) (a' := ?Aap9y10) [0, 1, 4, 5] (by kernel_rfl) (by kernel_rfl) (fun _ _ _ _ _ h => h) HTap9y10.out (fun _ => trivial) ?rap9y10 ?_
            case rap9y10 =>
              refine RG.RunsIf.weak (v := ?_) (by rfl) (by rfl) (fun Z hT => ?_) ?_
              rotate_left
              · go_simp
                rfl
              simp only [Act.put, List.setIfInBounds_toArray, List.set_cons_zero, List.set_cons_succ, List.getElem_toArray, List.getElem_cons_zero, List.getElem_cons_succ]
              refine RG.RunsIf.weak (v := ?_) (by rfl) (by rfl) (fun Z hT => ?_) ?_
              rotate_left
              · go_simp
                rfl
              simp only [Act.put, List.setIfInBounds_toArray, List.set_cons_zero, List.set_cons_succ, List.getElem_toArray, List.getElem_cons_zero, List.getElem_cons_succ]
              refine RG.RunsIf.weak (v := ?_) (by rfl) (by rfl) (fun Z hT => ?_) ?_
              rotate_left
              · go_simp
                rfl
              simp only [Act.put, List.setIfInBounds_toArray, List.set_cons_zero, List.set_cons_succ, List.getElem_toArray, List.getElem_cons_zero, List.getElem_cons_succ]
              refine RG.RunsIf.weak (v := ?_) (by rfl) (by rfl) (fun Z hT => ?_) ?_
              rotate_left
              · have cz := (HW.out Z hT).2.2.2.2.1
                go_simp
                rfl
              simp only [Act.put, List.setIfInBounds_toArray, List.set_cons_zero, List.set_cons_succ, List.getElem_toArray, List.getElem_cons_zero, List.getElem_cons_succ]
              exact RG.RunsIf.nil
            refine RG.wpL_step (i := 2) (by kernel_rfl) (by rfl) (by rfl) (fun KX hK => ?_)
            have HK := TW.hide hK
            clear hK
            go_simp
            refine (HNA.out _).mono ?_
            rintro e w' ⟨rfl, rfl⟩
            refine HK.out _ _ HTap9y10.out (fun _ => trivial) ?_
            clear HK KX
            try simp only [Act.put, List.setIfInBounds_toArray, List.set_cons_zero, List.set_cons_succ, List.getElem_toArray, List.getElem_cons_zero, List.getElem_cons_succ]
            refine RG.wpL_take (fuel := 3) (a' := ?Acp9y10) [3] (by kernel_rfl) (by kernel_rfl) (fun _ _ _ _ _ h => h) HTap9y10.out (fun _ => trivial) ?rcp9y10 ?_
            case rcp9y10 =>
              refine RG.RunsIf.weak (v := ?_) (by rfl) (by rfl) (fun Z hT => ?_) ?_
              rotate_left
              · go_simp
                rfl
              simp only [Act.put, List.setIfInBounds_toArray, List.set_cons_zero, List.set_cons_succ, List.getElem_toArray, List.getElem_cons_zero, List.getElem_cons_succ]
              exact RG.RunsIf.nil
            refine RG.wpL_step (i := 6) (by kernel_rfl) (by rfl) (by rfl) (fun KX hK => ?_)
            have HK := TW.hide hK
            clear hK
            go_simp
            refine (HDI.out _ ((HW.out _ HTap9y10.out).2.2.1)).mono ?_
            rintro e w3p9y10 ⟨rfl, hb2⟩
            have HTep9y10 : Hid (Below X5.heap.size X5 w3p9y10) := below_row HTap9y10.out hb2 HTap9y10.out.size
            refine HK.out _ _ HTep9y10.out (fun _ => trivial) ?_
            clear HK KX hb2 HTap9y10
            try simp only [Act.put, List.setIfInBounds_toArray, List.set_cons_zero, List.set_cons_succ, List.getElem_toArray, List.getElem_cons_zero, List.getElem_cons_succ]
            refine RG.wpL_take (fuel := 0) (a' := ?Abp9y10) [7, 8] (by kernel_rfl) (by kernel_rfl) (fun _ _ _ _ _ h => h) HTep9y10.out (fun _ => trivial) ?rbp9y10 ?_
            case rbp9y10 =>
              refine RG.RunsIf.weak (v := ?_) (by rfl) (by rfl) (fun Z hT => ?_) ?_
              rotate_left
              · go_simp
                rfl
              simp only [Act.put, List.setIfInBounds_toArray, List.set_cons_zero, List.set_cons_succ, List.getElem_toArray, List.getElem_cons_zero, List.getElem_cons_succ]
              refine RG.RunsIf.weak (v := ?_) (by rfl) (by rfl) (fun Z hT => ?_) ?_
              rotate_left
              · go_simp
                rfl
              simp only [Act.put, List.setIfInBounds_toArray, List.set_cons_zero, List.set_cons_succ, List.getElem_toArray, List.getElem_cons_zero, List.getElem_cons_succ]
              exact RG.RunsIf.nil
            refine RG.wpL_done (by kernel_rfl) ?_ _
            refine NoPanic.normal ?_
            go_wp2
            refine HKK.out _ _ ?_
            clear HKK KK
            have HA4 : Hid (A3 = strOfNums (lnL kd p S T 11)) := by
              show A3 = _
              rw [HA3.out, HLp9y10.out, HWD.out]; simp
            rw [HA4.out]
            clear e1 e2 e3 z1 z1' z2 z3 HA3 HNA HDI HLL HNL HDL HWD hz
            go_wp2
            go_ret2
            exact ⟨rfl, (HW.out _ HTep9y10.out).2.2.2.2.2⟩
  · have HTX : Hid (({ data := #[50, 98] } : ByteArray) = strOfNums (lnL kd p S T 0)) := by
      show _ = strOfNums (knL kd)
      rw [hkn]; rfl
    clear hkn
    go_wp2_with fail
    refine (HMO.out _).mono ?_
    rintro e w2 ⟨rfl, rfl⟩
    go_wp2
    have NV5 := blk_alloc (o' := .cells #[.int .u64 m, .int .u64 0, .int .u64 1, .int .u64 1, .int .u64 0, .int .u64 0, .int .u64 0, .int .u64 0, .int .u64 0] 23) HNV.out
    have NU5 := HNU.out
    have N65 := blk_alloc (o' := .cells #[.int .u64 m, .int .u64 0, .int .u64 1, .int .u64 1, .int .u64 0, .int .u64 0, .int .u64 0, .int .u64 0, .int .u64 0] 23) (blk_alloc (o' := .cells #[.int .u64 p.d, .int .u64 p.k, .int .u64 p.f, .int .u64 p.dp, .int .u64 p.lf, .int .u64 p.off, .int .u64 p.xof, .int .u64 p.nd, .int .u64 p.inn] 23) N6.out)
    have BX5 : Below X1.heap.size X1 ((X1.alloc (.cells #[.int .u64 p.d, .int .u64 p.k, .int .u64 p.f, .int .u64 p.dp, .int .u64 p.lf, .int .u64 p.off, .int .u64 p.xof, .int .u64 p.nd, .int .u64 p.inn] 23)).alloc (.cells #[.int .u64 m, .int .u64 0, .int .u64 1, .int .u64 1, .int .u64 0, .int .u64 0, .int .u64 0, .int .u64 0, .int .u64 0] 23)) := HBV.out.trans (HBU.out.mono (by omega))
    have hs5 : X1.heap.size + 1 < ((X1.alloc (.cells #[.int .u64 p.d, .int .u64 p.k, .int .u64 p.f, .int .u64 p.dp, .int .u64 p.lf, .int .u64 p.off, .int .u64 p.xof, .int .u64 p.nd, .int .u64 p.inn] 23)).alloc (.cells #[.int .u64 m, .int .u64 0, .int .u64 1, .int .u64 1, .int .u64 0, .int .u64 0, .int .u64 0, .int .u64 0, .int .u64 0] 23)).heap.size := by simp
    clear HNV HNU HBV HBU HX2 q0 q1 q2 q3 q4 q5 q6 q7 q8 u1 u2 u3 u4 u5 u7 u8 u9 um
    generalize (X1.alloc (.cells #[.int .u64 p.d, .int .u64 p.k, .int .u64 p.f, .int .u64 p.dp, .int .u64 p.lf, .int .u64 p.off, .int .u64 p.xof, .int .u64 p.nd, .int .u64 p.inn] 23)).alloc (.cells #[.int .u64 m, .int .u64 0, .int .u64 1, .int .u64 1, .int .u64 0, .int .u64 0, .int .u64 0, .int .u64 0, .int .u64 0] 23) = X5 at NV5 NU5 N65 BX5 hs5 ⊢
    have PA5 := TW.hide (PA.out.below BX5)
    have PB5 := TW.hide (PB.out.below BX5)
    have BW5 : Hid (Below B w X5) := below_row B2.out BX5 (by have := B2.out.size; have := HBB.out; omega)
    have HBx : Hid (B ≤ X5.heap.size) := by have := BW5.out.size; have := HBB.out; show _ ≤ _; omega
    have NVa := TW.hide NV5
    have NUa := TW.hide NU5
    have N6a := TW.hide N65
    clear NV5 NU5 N65 BX5 PA PB N6 B2
    generalize X1.heap.size = gv at *
    -- what holds in every world behind
    have HW : Hid (∀ W : World, Below X5.heap.size X5 W → (∀ j : Nat, j < 9 → W.cell? ⟨gv, j, none⟩ = some (.int .u64 (p.nv ((j : Int) + 1))) ∧ W.cell? ⟨gv + 1, j, none⟩ = some (.int .u64 ((usP kd).nv ((j : Int) + 1)))) ∧ Pb W a1 c1 S ∧ Pb W a2 c2 T ∧ W.cell? ⟨g6, 9, none⟩ = some (.slice a1 S.length c1) ∧ W.cell? ⟨g6, 10, none⟩ = some (.slice a2 T.length c2) ∧ Below B w W) := fun W h => by
      refine ⟨fun j hj => ⟨blk_cell (blk_keep NVa.out h) (nv_list p j hj), ?_⟩, PA5.out.below h, PB5.out.below h, blk_cell (i := 9) (blk_keep N6a.out h) rfl, blk_cell (i := 10) (blk_keep N6a.out h) rfl, below_row BW5.out h HBx.out⟩
      refine blk_cell (blk_keep NUa.out h) ?_
      rw [HUS.out]
      exact nv_list ⟨m, 0, 1, 1, 0, 0, 0, 0, 0⟩ j hj
    rw [HTX.out]
    clear NVa NUa N6a PA5 PB5 BW5 HTX HN HMO
    go_loopw [8, 11] (fun t8 t11 wr => ∃ k : Nat, k ≤ 9 ∧ t11 = .int .i64 ((k : Int) + 1) ∧ t8 = .string (strOfNums (lnL kd p S T k)) ∧ Below X5.heap.size X5 wr) (fun _ t11 _ => (10 - intOf t11).toNat)
    case atStart => exact ⟨0, by omega, rfl, rfl, Below.refl _ _⟩
    case round =>
      rename_i Q1 K1 a1_
      obtain ⟨k, hk9, rfl, rfl, hbx⟩ := hrel
      by_cases hlt : k < 9
      · obtain ⟨hvu, hpa, hpb, _, _, _⟩ := HW.out wr hbx
        obtain ⟨cv, cu⟩ := hvu k hlt
        have BX := TW.hide hbx
        clear hvu hpa hpb hbx
        have hkI : (k : Int) + 1 ≤ 9 := by omega
        have hk0 : (0 : Int) ≤ (k : Int) := by omega
        have hk8 : (k : Int) < 9 := by omega
        have hub := HUSB.out ((k : Int) + 1) (by omega) (by omega)
        have hnb := HNVB.out ((k : Int) + 1) (by omega) (by omega)
        have hlE := @lnL_eq kd p S T k
        have hlN := @lnL_ne kd p S T k
        have HLE := TW.hide hlE
        have HLN := TW.hide hlN
        have hwd : wdL p S T ((k : Int) + 1) = [32] ++ nmL ((k : Int) + 1) ++ [61] ++ dcs (p.nv ((k : Int) + 1)).toNat := by
          show [32] ++ nmL ((k : Int) + 1) ++ [61] ++ shV p S T ((k : Int) + 1) = _
          rw [shV, if_neg (by omega), if_neg (by omega)]
        have HWD := TW.hide hwd
        have HLL := TW.hide (HLEN.out k (by omega))
        have HNL := TW.hide (nmL_len ((k : Int) + 1))
        have HUB := TW.hide hub
        obtain ⟨v1, hv1⟩ : ∃ v1 : Nat, p.nv ((k : Int) + 1) = v1 := ⟨(p.nv ((k : Int) + 1)).toNat, by omega⟩
        rw [hv1] at cv
        have HV1 := TW.hide hv1
        have hv64 : v1 < 18446744073709551616 := by omega
        have HDL := TW.hide (dcs_len64 v1 hv64)
        have HNA := TW.hide (fun W => rname ((k : Int) + 1) (by omega) (by omega) W)
        have HDI := TW.hide (fun W => rdigits v1 hv64 W)
        clear hlE hlN hwd hub hnb hv1
        generalize (usP kd).nv ((k : Int) + 1) = v2 at *
        by_cases hv : (v1 : Int) = v2
        · have hus : usB kd p S T ((k : Int) + 1) = true := by rw [HUB.out, HV1.out]; simp [hv]
          have HL1 := TW.hide (HLE.out hus)
          have hne : ((v1 : Int) != v2) = false := by simp [hv]
          clear hus hv
          go_wp2
          go_quiet (fail)
          go_wp2
          go_roundw
          case rel => exact ⟨k + 1, by omega, by go_num, by rw [HL1.out], below_drewN BX.out nq⟩
          case measure => simp [intOf]; omega
        · have hus : usB kd p S T ((k : Int) + 1) = false := by rw [HUB.out, HV1.out]; simp [hv]
          have HL1 := TW.hide (HLN.out hus)
          have hne : ((v1 : Int) != v2) = true := by simp [hv]
          clear hus hv
          go_wp2
          go_quiet (fail)
          go_wp2
          have BX' := below_drewN BX.out nq
          have cv' : (wr.drewN nq).cell? ⟨gv, k, none⟩ = some (.int .u64 (v1 : Int)) := cv
          clear cv cu BX
          generalize wr.drewN nq = wq at BX' cv' ⊢
          have BQ := TW.hide BX'
          clear BX'
          obtain ⟨L0, hL0⟩ : ∃ L0, L0 = strOfNums (lnL kd p S T k) := ⟨_, rfl⟩
          obtain ⟨L1, hL1⟩ : ∃ L1, L1 = strOfNums (nmL ((k : Int) + 1) ++ [61]) := ⟨_, rfl⟩
          obtain ⟨L2, hL2⟩ : ∃ L2, L2 = strOfNums (dcs v1) := ⟨_, rfl⟩
          obtain ⟨A1, hA1⟩ : ∃ A1, A1 = L0 ++ ({ data := #[32] } : ByteArray) := ⟨_, rfl⟩
          obtain ⟨A2, hA2⟩ : ∃ A2, A2 = A1 ++ L1 := ⟨_, rfl⟩
          obtain ⟨A3, hA3⟩ : ∃ A3, A3 = A2 ++ L2 := ⟨_, rfl⟩
          have hA1' : A1 = strOfNums ((lnL kd p S T k) ++ [32]) := by rw [hA1, hL0, ← strOf_append (lnL kd p S T k)]; rfl
          have hA2' : A2 = strOfNums ((lnL kd p S T k) ++ [32] ++ (nmL ((k : Int) + 1) ++ [61])) := by rw [hA2, hA1', hL1, strOf_append]
          have hA3' : A3 = strOfNums ((lnL kd p S T k) ++ [32] ++ (nmL ((k : Int) + 1) ++ [61]) ++ (dcs v1)) := by rw [hA3, hA2', hL2, strOf_append]
          have z1 : ¬ 9223372036854775807 < L0.size + ({ data := #[32] } : ByteArray).size := by
            have h1 : ({ data := #[32] } : ByteArray).size = 1 := rfl
            have := HLL.out
            rw [h1, hL0, strOf_size]; omega
          have z1' : ¬ 9223372036854775807 < L0.size + 1 := by
            have := HLL.out
            rw [hL0, strOf_size]; omega
          have z2 : ¬ 9223372036854775807 < A1.size + L1.size := by
            have := HLL.out
            have := HNL.out
            rw [hA1', hL1, strOf_size, strOf_size]; simp; omega
          have z3 : ¬ 9223372036854775807 < A2.size + L2.size := by
            have := HLL.out
            have := HNL.out
            have := HDL.out
            rw [hA2', hL2, strOf_size, strOf_size]; simp; omega
          have HA3 := TW.hide hA3'
          rw [← hL0]
          rw [← hL1] at HNA
          rw [← hL2] at HDI
          have e1 := hA1.symm
          have e2 := hA2.symm
          have e3 := hA3.symm
          clear hA1 hA2 hA3 hA1' hA2' hA3' hL0 hL1 hL2
          have hwk : IntKind.i64.wrap (k : Int) = (k : Int) := by rw [IntKind.wrap_i64]; omega
          have hkN : (k : Int).toNat = k := by omega
          refine wp_region_noPanic ?_
          refine RG.wp_region_L (fun Z => True) (fun Z => Below X5.heap.size X5 Z) [] (by kernel_rfl) ?_
          refine RG.wpL_any fun Yaq hY => ?_
          have HTaq : Hid (Below X5.heap.size X5 Yaq) := by rw [hY]; exact below_drewN BQ.out 1
          clear hY
          refine RG.wpL_take (fuel := 5) (a' := ?Aaq) [0, 1, 2, 5, 6, 7, 8, 9] (by kernel_rfl) (by kernel_rfl) (fun _ _ _ _ _ h => h) HTaq.out (fun _ => trivial) ?raq ?_
          case raq =>
            refine RG.RunsIf.weak (v := ?_) (by rfl) (by rfl) (fun Z hT => ?_) ?_
            rotate_left
            · go_simp
              rfl
            simp only [Act.put, List.setIfInBounds_toArray, List.set_cons_zero, List.set_cons_succ, List.getElem_toArray, List.getElem_cons_zero, List.getElem_cons_succ]
            refine RG.RunsIf.weak (v := ?_) (by rfl) (by rfl) (fun Z hT => ?_) ?_
            rotate_left
            · go_simp
              rfl
            simp only [Act.put, List.setIfInBounds_toArray, List.set_cons_zero, List.set_cons_succ, List.getElem_toArray, List.getElem_cons_zero, List.getElem_cons_succ]
            refine RG.RunsIf.weak (v := ?_) (by rfl) (by rfl) (fun Z hT => ?_) ?_
            rotate_left
            · go_simp
              rfl
            simp only [Act.put, List.setIfInBounds_toArray, List.set_cons_zero, List.set_cons_succ, List.getElem_toArray, List.getElem_cons_zero, List.getElem_cons_succ]
            refine RG.RunsIf.weak (v := ?_) (by rfl) (by rfl) (fun Z hT => ?_) ?_
            rotate_left
            · go_simp
              rfl
            simp only [Act.put, List.setIfInBounds_toArray, List.set_cons_zero, List.set_cons_succ, List.getElem_toArray, List.getElem_cons_zero, List.getElem_cons_succ]
            refine RG.RunsIf.weak (v := ?_) (by rfl) (by rfl) (fun Z hT => ?_) ?_
            rotate_left
            · go_simp
              rfl
            simp only [Act.put, List.setIfInBounds_toArray, List.set_cons_zero, List.set_cons_succ, List.getElem_toArray, List.getElem_cons_zero, List.getElem_cons_succ]
            refine RG.RunsIf.weak (v := ?_) (by rfl) (by rfl) (fun Z hT => ?_) ?_
            rotate_left
            · go_simp
              rfl
            simp only [Act.put, List.setIfInBounds_toArray, List.set_cons_zero, List.set_cons_succ, List.getElem_toArray, List.getElem_cons_zero, List.getElem_cons_succ]
            refine RG.RunsIf.weak (v := ?_) (by rfl) (by rfl) (fun Z hT => ?_) ?_
            rotate_left
            · go_simp
              rfl
            simp only [Act.put, List.setIfInBounds_toArray, List.set_cons_zero, List.set_cons_succ, List.getElem_toArray, List.getElem_cons_zero, List.getElem_cons_succ]
            refine RG.RunsIf.weak (v := ?_) (by rfl) (by rfl) (fun Z hT => ?_) ?_
            rotate_left
            · have cz := ((HW.out Z hT).1 k hlt).1
              rw [HV1.out] at cz
              go_simp
              rfl
            simp only [Act.put, List.setIfInBounds_toArray, List.set_cons_zero, List.set_cons_succ, List.getElem_toArray, List.getElem_cons_zero, List.getElem_cons_succ]
            exact RG.RunsIf.nil
          refine RG.wpL_step (i := 3) (by kernel_rfl) (by rfl) (by rfl) (fun KX hK => ?_)
          have HK := TW.hide hK
          clear hK
          go_simp
          refine (HNA.out _).mono ?_
          rintro e w' ⟨rfl, rfl⟩
          refine HK.out _ _ HTaq.out (fun _ => trivial) ?_
          clear HK KX
          try simp only [Act.put, List.setIfInBounds_toArray, List.set_cons_zero, List.set_cons_succ, List.getElem_toArray, List.getElem_cons_zero, List.getElem_cons_succ]
          refine RG.wpL_take (fuel := 3) (a' := ?Acq) [4] (by kernel_rfl) (by kernel_rfl) (fun _ _ _ _ _ h => h) HTaq.out (fun _ => trivial) ?rcq ?_
          case rcq =>
            refine RG.RunsIf.weak (v := ?_) (by rfl) (by rfl) (fun Z hT => ?_) ?_
            rotate_left
            · go_simp
              rfl
            simp only [Act.put, List.setIfInBounds_toArray, List.set_cons_zero, List.set_cons_succ, List.getElem_toArray, List.getElem_cons_zero, List.getElem_cons_succ]
            exact RG.RunsIf.nil
          refine RG.wpL_step (i := 10) (by kernel_rfl) (by rfl) (by rfl) (fun KX hK => ?_)
          have HK := TW.hide hK
          clear hK
          go_simp
          refine (HDI.out _).mono ?_
          rintro e w3 ⟨rfl, hb2⟩
          have HTe : Hid (Below X5.heap.size X5 w3) := below_row HTaq.out hb2 HTaq.out.size
          refine HK.out _ _ HTe.out (fun _ => trivial) ?_
          clear HK KX hb2 HTaq
          try simp only [Act.put, List.setIfInBounds_toArray, List.set_cons_zero, List.set_cons_succ, List.getElem_toArray, List.getElem_cons_zero, List.getElem_cons_succ]
          refine RG.wpL_take (fuel := 0) (a' := ?Abq) [11, 12] (by kernel_rfl) (by kernel_rfl) (fun _ _ _ _ _ h => h) HTe.out (fun _ => trivial) ?rbq ?_
          case rbq =>
            refine RG.RunsIf.weak (v := ?_) (by rfl) (by rfl) (fun Z hT => ?_) ?_
            rotate_left
            · go_simp
              rfl
            simp only [Act.put, List.setIfInBounds_toArray, List.set_cons_zero, List.set_cons_succ, List.getElem_toArray, List.getElem_cons_zero, List.getElem_cons_succ]
            refine RG.RunsIf.weak (v := ?_) (by rfl) (by rfl) (fun Z hT => ?_) ?_
            rotate_left
            · go_simp
              rfl
            simp only [Act.put, List.setIfInBounds_toArray, List.set_cons_zero, List.set_cons_succ, List.getElem_toArray, List.getElem_cons_zero, List.getElem_cons_succ]
            exact RG.RunsIf.nil
          refine RG.wpL_done (by kernel_rfl) ?_ _
          refine NoPanic.normal ?_
          go_wp2
          go_roundw
          case rel => exact ⟨k + 1, by omega, by go_num, by rw [HA3.out, HL1.out, HWD.out, HV1.out]; simp, HTe.out⟩
          case measure => simp [intOf]; omega
      · obtain rfl : k = 9 := by omega
        have HA := TW.hide a1_
        clear a1_
        have BX := TW.hide hbx
        clear hbx
        go_wp2
        refine HA.out _ _ ?_
        clear HA
        have ceq9 := (HW.out _ BX.out).2.2.2.1
        by_cases hlq9 : S.length = 0
        · have hus : usB kd p S T ((9 : Nat) + 1 : Int) = true := by
            show usB kd p S T 10 = true
            rw [usB_salt]; simp [hlq9]
          have HLq9 := TW.hide (lnL_eq (k := 9) hus)
          have hz : ¬ (0 : Int) < ((S.length : Nat) : Int) := by omega
          rw [← HLq9.out]
          clear hus
          refine wp_seq_k fun KK hK => ?_
          have HK := TW.hide hK
          clear hK
          go_wp2
          refine HK.out _ _ ?_
          clear HK KK
          have ceq9x10 := (HW.out _ BX.out).2.2.2.2.1
          by_cases hlq9x10 : T.length = 0
          · have hus : usB kd p S T ((10 : Nat) + 1 : Int) = true := by
              show usB kd p S T 11 = true
              rw [usB_pers]; simp [hlq9x10]
            have HLq9x10 := TW.hide (lnL_eq (k := 10) hus)
            have hz : ¬ (0 : Int) < ((T.length : Nat) : Int) := by omega
            rw [← HLq9x10.out]
            clear hus
            refine wp_seq_k fun KK hK => ?_
            have HK := TW.hide hK
            clear hK
            go_wp2
            refine HK.out _ _ ?_
            clear HK KK
            go_wp2
            go_ret2
            exact ⟨rfl, (HW.out _ BX.out).2.2.2.2.2⟩
          · have hus : usB kd p S T ((10 : Nat) + 1 : Int) = false := by
              show usB kd p S T 11 = false
              rw [usB_pers]; simpa using hlq9x10
            have HLq9x10 := TW.hide (lnL_ne (k := 10) hus)
            have hz : (0 : Int) < ((T.length : Nat) : Int) := by omega
            have HWD : Hid (wdL p S T ((10 : Nat) + 1 : Int) = [32] ++ nmL 11 ++ [61] ++ hx T) := rfl
            have HLL := TW.hide (HLEN.out 10 (by omega))
            have HNL := TW.hide (nmL_len 11)
            have HDL : Hid ((hx T).length ≤ 128) := by show _ ≤ _; rw [hx_length]; omega
            have HNA := TW.hide (fun W => rname 11 (by omega) (by omega) W)
            have HDI := TW.hide (fun W (h : Pb W a2 c2 T) => rhex a2 c2 T W h.byt h.row (by omega))
            clear hus
            refine wp_seq_k fun KK hK => ?_
            have HKK := TW.hide hK
            clear hK
            go_wp2
            obtain ⟨L0, hL0⟩ : ∃ L0, L0 = strOfNums (lnL kd p S T 10) := ⟨_, rfl⟩
            obtain ⟨L1, hL1⟩ : ∃ L1, L1 = strOfNums (nmL 11 ++ [61]) := ⟨_, rfl⟩
            obtain ⟨L2, hL2⟩ : ∃ L2, L2 = strOfNums (hx T) := ⟨_, rfl⟩
            obtain ⟨A1, hA1⟩ : ∃ A1, A1 = L0 ++ ({ data := #[32] } : ByteArray) := ⟨_, rfl⟩
            obtain ⟨A2, hA2⟩ : ∃ A2, A2 = A1 ++ L1 := ⟨_, rfl⟩
            obtain ⟨A3, hA3⟩ : ∃ A3, A3 = A2 ++ L2 := ⟨_, rfl⟩
            have hA1' : A1 = strOfNums ((lnL kd p S T 10) ++ [32]) := by rw [hA1, hL0, ← strOf_append (lnL kd p S T 10)]; rfl
            have hA2' : A2 = strOfNums ((lnL kd p S T 10) ++ [32] ++ (nmL 11 ++ [61])) := by rw [hA2, hA1', hL1, strOf_append]
            have hA3' : A3 = strOfNums ((lnL kd p S T 10) ++ [32] ++ (nmL 11 ++ [61]) ++ (hx T)) := by rw [hA3, hA2', hL2, strOf_append]
            have z1 : ¬ 9223372036854775807 < L0.size + ({ data := #[32] } : ByteArray).size := by
              have h1 : ({ data := #[32] } : ByteArray).size = 1 := rfl
              have := HLL.out
              rw [h1, hL0, strOf_size]; omega
            have z1' : ¬ 9223372036854775807 < L0.size + 1 := by
              have := HLL.out
              rw [hL0, strOf_size]; omega
            have z2 : ¬ 9223372036854775807 < A1.size + L1.size := by
              have := HLL.out
              have := HNL.out
              rw [hA1', hL1, strOf_size, strOf_size]; simp; omega
            have z3 : ¬ 9223372036854775807 < A2.size + L2.size := by
              have := HLL.out
              have := HNL.out
              have := HDL.out
              rw [hA2', hL2, strOf_size, strOf_size]; simp; omega
            have HA3 := TW.hide hA3'
            rw [← hL0]
            rw [← hL1] at HNA
            rw [← hL2] at HDI
            have e1 := hA1.symm
            have e2 := hA2.symm
            have e3 := hA3.symm
            clear hA1 hA2 hA3 hA1' hA2' hA3' hL0 hL1 hL2
            refine wp_region_noPanic ?_
            refine RG.wp_region_L (fun Z => True) (fun Z => Below X5.heap.size X5 Z) [] (by kernel_rfl) ?_
            refine RG.wpL_any fun Yaq9x10 hY => ?_
            have HTaq9x10 : Hid (Below X5.heap.size X5 Yaq9x10) := by rw [hY]; exact below_drewN BX.out 1
            clear hY
            refine RG.wpL_take (fuel := 5) (a' := ?Aaq9x10) [0, 1, 4, 5] (by kernel_rfl) (by kernel_rfl) (fun _ _ _ _ _ h => h) HTaq9x10.out (fun _ => trivial) ?raq9x10 ?_
            case raq9x10 =>
              refine RG.RunsIf.weak (v := ?_) (by rfl) (by rfl) (fun Z hT => ?_) ?_
              rotate_left
              · go_simp
                rfl
              simp only [Act.put, List.setIfInBounds_toArray, List.set_cons_zero, List.set_cons_succ, List.getElem_toArray, List.getElem_cons_zero, List.getElem_cons_succ]
              refine RG.RunsIf.weak (v := ?_) (by rfl) (by rfl) (fun Z hT => ?_) ?_
              rotate_left
              · go_simp
                rfl
              simp only [Act.put, List.setIfInBounds_toArray, List.set_cons_zero, List.set_cons_succ, List.getElem_toArray, List.getElem_cons_zero, List.getElem_cons_succ]
              refine RG.RunsIf.weak (v := ?_) (by rfl) (by rfl) (fun Z hT => ?_) ?_
              rotate_left
              · go_simp
                rfl
              simp only [Act.put, List.setIfInBounds_toArray, List.set_cons_zero, List.set_cons_succ, List.getElem_toArray, List.getElem_cons_zero, List.getElem_cons_succ]
              refine RG.RunsIf.weak (v := ?_) (by rfl) (by rfl) (fun Z hT => ?_) ?_
              rotate_left
              · have cz := (HW.out Z hT).2.2.2.2.1
                go_simp
                rfl
              simp only [Act.put, List.setIfInBounds_toArray, List.set_cons_zero, List.set_cons_succ, List.getElem_toArray, List.getElem_cons_zero, List.getElem_cons_succ]
              exact RG.RunsIf.nil
            refine RG.wpL_step (i := 2) (by kernel_rfl) (by rfl) (by rfl) (fun KX hK => ?_)
            have HK := TW.hide hK
            clear hK
            go_simp
            refine (HNA.out _).mono ?_
            rintro e w' ⟨rfl, rfl⟩
            refine HK.out _ _ HTaq9x10.out (fun _ => trivial) ?_
            clear HK KX
            try simp only [Act.put, List.setIfInBounds_toArray, List.set_cons_zero, List.set_cons_succ, List.getElem_toArray, List.getElem_cons_zero, List.getElem_cons_succ]
            refine RG.wpL_take (fuel := 3) (a' := ?Acq9x10) [3] (by kernel_rfl) (by kernel_rfl) (fun _ _ _ _ _ h => h) HTaq9x10.out (fun _ => trivial) ?rcq9x10 ?_
            case rcq9x10 =>
              refine RG.RunsIf.weak (v := ?_) (by rfl) (by rfl) (fun Z hT => ?_) ?_
              rotate_left
              · go_simp
                rfl
              simp only [Act.put, List.setIfInBounds_toArray, List.set_cons_zero, List.set_cons_succ, List.getElem_toArray, List.getElem_cons_zero, List.getElem_cons_succ]
              exact RG.RunsIf.nil
            refine RG.wpL_step (i := 6) (by kernel_rfl) (by rfl) (by rfl) (fun KX hK => ?_)
            have HK := TW.hide hK
            clear hK
            go_simp
            refine (HDI.out _ ((HW.out _ HTaq9x10.out).2.2.1)).mono ?_
            rintro e w3q9x10 ⟨rfl, hb2⟩
            have HTeq9x10 : Hid (Below X5.heap.size X5 w3q9x10) := below_row HTaq9x10.out hb2 HTaq9x10.out.size
            refine HK.out _ _ HTeq9x10.out (fun _ => trivial) ?_
            clear HK KX hb2 HTaq9x10
            try simp only [Act.put, List.setIfInBounds_toArray, List.set_cons_zero, List.set_cons_succ, List.getElem_toArray, List.getElem_cons_zero, List.getElem_cons_succ]
            refine RG.wpL_take (fuel := 0) (a' := ?Abq9x10) [7, 8] (by kernel_rfl) (by kernel_rfl) (fun _ _ _ _ _ h => h) HTeq9x10.out (fun _ => trivial) ?rbq9x10 ?_
            case rbq9x10 =>
              refine RG.RunsIf.weak (v := ?_) (by rfl) (by rfl) (fun Z hT => ?_) ?_
              rotate_left
              · go_simp
                rfl
              simp only [Act.put, List.setIfInBounds_toArray, List.set_cons_zero, List.set_cons_succ, List.getElem_toArray, List.getElem_cons_zero, List.getElem_cons_succ]
              refine RG.RunsIf.weak (v := ?_) (by rfl) (by rfl) (fun Z hT => ?_) ?_
              rotate_left
              · go_simp
                rfl
              simp only [Act.put, List.setIfInBounds_toArray, List.set_cons_zero, List.set_cons_succ, List.getElem_toArray, List.getElem_cons_zero, List.getElem_cons_succ]
              exact RG.RunsIf.nil
            refine RG.wpL_done (by kernel_rfl) ?_ _
            refine NoPanic.normal ?_
            go_wp2
            refine HKK.out _ _ ?_
            clear HKK KK
            have HA4 : Hid (A3 = strOfNums (lnL kd p S T 11)) := by
              show A3 = _
              rw [HA3.out, HLq9x10.out, HWD.out]; simp
            rw [HA4.out]
            clear e1 e2 e3 z1 z1' z2 z3 HA3 HNA HDI HLL HNL HDL HWD hz
            go_wp2
            go_ret2
            exact ⟨rfl, (HW.out _ HTeq9x10.out).2.2.2.2.2⟩
        · have hus : usB kd p S T ((9 : Nat) + 1 : Int) = false := by
            show usB kd p S T 10 = false
            rw [usB_salt]; simpa using hlq9
          have HLq9 := TW.hide (lnL_ne (k := 9) hus)
          have hz : (0 : Int) < ((S.length : Nat) : Int) := by omega
          have HWD : Hid (wdL p S T ((9 : Nat) + 1 : Int) = [32] ++ nmL 10 ++ [61] ++ hx S) := rfl
          have HLL := TW.hide (HLEN.out 9 (by omega))
          have HNL := TW.hide (nmL_len 10)
          have HDL : Hid ((hx S).length ≤ 128) := by show _ ≤ _; rw [hx_length]; omega
          have HNA := TW.hide (fun W => rname 10 (by omega) (by omega) W)
          have HDI := TW.hide (fun W (h : Pb W a1 c1 S) => rhex a1 c1 S W h.byt h.row (by omega))
          clear hus
          refine wp_seq_k fun KK hK => ?_
          have HKK := TW.hide hK
          clear hK
          go_wp2
          obtain ⟨L0, hL0⟩ : ∃ L0, L0 = strOfNums (lnL kd p S T 9) := ⟨_, rfl⟩
          obtain ⟨L1, hL1⟩ : ∃ L1, L1 = strOfNums (nmL 10 ++ [61]) := ⟨_, rfl⟩
          obtain ⟨L2, hL2⟩ : ∃ L2, L2 = strOfNums (hx S) := ⟨_, rfl⟩
          obtain ⟨A1, hA1⟩ : ∃ A1, A1 = L0 ++ ({ data := #[32] } : ByteArray) := ⟨_, rfl⟩
          obtain ⟨A2, hA2⟩ : ∃ A2, A2 = A1 ++ L1 := ⟨_, rfl⟩
          obtain ⟨A3, hA3⟩ : ∃ A3, A3 = A2 ++ L2 := ⟨_, rfl⟩
          have hA1' : A1 = strOfNums ((lnL kd p S T 9) ++ [32]) := by rw [hA1, hL0, ← strOf_append (lnL kd p S T 9)]; rfl
          have hA2' : A2 = strOfNums ((lnL kd p S T 9) ++ [32] ++ (nmL 10 ++ [61])) := by rw [hA2, hA1', hL1, strOf_append]
          have hA3' : A3 = strOfNums ((lnL kd p S T 9) ++ [32] ++ (nmL 10 ++ [61]) ++ (hx S)) := by rw [hA3, hA2', hL2, strOf_append]
          have z1 : ¬ 9223372036854775807 < L0.size + ({ data := #[32] } : ByteArray).size := by
            have h1 : ({ data := #[32] } : ByteArray).size = 1 := rfl
            have := HLL.out
            rw [h1, hL0, strOf_size]; omega
          have z1' : ¬ 9223372036854775807 < L0.size + 1 := by
            have := HLL.out
            rw [hL0, strOf_size]; omega
          have z2 : ¬ 9223372036854775807 < A1.size + L1.size := by
            have := HLL.out
            have := HNL.out
            rw [hA1', hL1, strOf_size, strOf_size]; simp; omega
          have z3 : ¬ 9223372036854775807 < A2.size + L2.size := by
            have := HLL.out
            have := HNL.out
            have := HDL.out
            rw [hA2', hL2, strOf_size, strOf_size]; simp; omega
          have HA3 := TW.hide hA3'
          rw [← hL0]
          rw [← hL1] at HNA
          rw [← hL2] at HDI
          have e1 := hA1.symm
          have e2 := hA2.symm
          have e3 := hA3.symm
          clear hA1 hA2 hA3 hA1' hA2' hA3' hL0 hL1 hL2
          refine wp_region_noPanic ?_
          refine RG.wp_region_L (fun Z => True) (fun Z => Below X5.heap.size X5 Z) [] (by kernel_rfl) ?_
          refine RG.wpL_any fun Yaq9 hY => ?_
          have HTaq9 : Hid (Below X5.heap.size X5 Yaq9) := by rw [hY]; exact below_drewN BX.out 1
          clear hY
          refine RG.wpL_take (fuel := 5) (a' := ?Aaq9) [0, 1, 4, 5] (by kernel_rfl) (by kernel_rfl) (fun _ _ _ _ _ h => h) HTaq9.out (fun _ => trivial) ?raq9 ?_
          case raq9 =>
            refine RG.RunsIf.weak (v := ?_) (by rfl) (by rfl) (fun Z hT => ?_) ?_
            rotate_left
            · go_simp
              rfl
            simp only [Act.put, List.setIfInBounds_toArray, List.set_cons_zero, List.set_cons_succ, List.getElem_toArray, List.getElem_cons_zero, List.getElem_cons_succ]
            refine RG.RunsIf.weak (v := ?_) (by rfl) (by rfl) (fun Z hT => ?_) ?_
            rotate_left
            · go_simp
              rfl
            simp only [Act.put, List.setIfInBounds_toArray, List.set_cons_zero, List.set_cons_succ, List.getElem_toArray, List.getElem_cons_zero, List.getElem_cons_succ]
            refine RG.RunsIf.weak (v := ?_) (by rfl) (by rfl) (fun Z hT => ?_) ?_
            rotate_left
            · go_simp
              rfl
            simp only [Act.put, List.setIfInBounds_toArray, List.set_cons_zero, List.set_cons_succ, List.getElem_toArray, List.getElem_cons_zero, List.getElem_cons_succ]
            refine RG.RunsIf.weak (v := ?_) (by rfl) (by rfl) (fun Z hT => ?_) ?_
            rotate_left
            · have cz := (HW.out Z hT).2.2.2.1
              go_simp
              rfl
            simp only [Act.put, List.setIfInBounds_toArray, List.set_cons_zero, List.set_cons_succ, List.getElem_toArray, List.getElem_cons_zero, List.getElem_cons_succ]
            exact RG.RunsIf.nil
          refine RG.wpL_step (i := 2) (by kernel_rfl) (by rfl) (by rfl) (fun KX hK => ?_)
          have HK := TW.hide hK
          clear hK
          go_simp
          refine (HNA.out _).mono ?_
          rintro e w' ⟨rfl, rfl⟩
          refine HK.out _ _ HTaq9.out (fun _ => trivial) ?_
          clear HK KX
          try simp only [Act.put, List.setIfInBounds_toArray, List.set_cons_zero, List.set_cons_succ, List.getElem_toArray, List.getElem_cons_zero, List.getElem_cons_succ]
          refine RG.wpL_take (fuel := 3) (a' := ?Acq9) [3] (by kernel_rfl) (by kernel_rfl) (fun _ _ _ _ _ h => h) HTaq9.out (fun _ => trivial) ?rcq9 ?_
          case rcq9 =>
            refine RG.RunsIf.weak (v := ?_) (by rfl) (by rfl) (fun Z hT => ?_) ?_
            rotate_left
            · go_simp
              rfl
            simp only [Act.put, List.setIfInBounds_toArray, List.set_cons_zero, List.set_cons_succ, List.getElem_toArray, List.getElem_cons_zero, List.getElem_cons_succ]
            exact RG.RunsIf.nil
          refine RG.wpL_step (i := 6) (by kernel_rfl) (by rfl) (by rfl) (fun KX hK => ?_)
          have HK := TW.hide hK
          clear hK
          go_simp
          refine (HDI.out _ ((HW.out _ HTaq9.out).2.1)).mono ?_
          rintro e w3q9 ⟨rfl, hb2⟩
          have HTeq9 : Hid (Below X5.heap.size X5 w3q9) := below_row HTaq9.out hb2 HTaq9.out.size
          refine HK.out _ _ HTeq9.out (fun _ => trivial) ?_
          clear HK KX hb2 HTaq9
          try simp only [Act.put, List.setIfInBounds_toArray, List.set_cons_zero, List.set_cons_succ, List.getElem_toArray, List.getElem_cons_zero, List.getElem_cons_succ]
          refine RG.wpL_take (fuel := 0) (a' := ?Abq9) [7, 8] (by kernel_rfl) (by kernel_rfl) (fun _ _ _ _ _ h => h) HTeq9.out (fun _ => trivial) ?rbq9 ?_
          case rbq9 =>
            refine RG.RunsIf.weak (v := ?_) (by rfl) (by rfl) (fun Z hT => ?_) ?_
            rotate_left
            · go_simp
              rfl
            simp only [Act.put, List.setIfInBounds_toArray, List.set_cons_zero, List.set_cons_succ, List.getElem_toArray, List.getElem_cons_zero, List.getElem_cons_succ]
            refine RG.RunsIf.weak (v := ?_) (by rfl) (by rfl) (fun Z hT => ?_) ?_
            rotate_left
            · go_simp
              rfl
            simp only [Act.put, List.setIfInBounds_toArray, List.set_cons_zero, List.set_cons_succ, List.getElem_toArray, List.getElem_cons_zero, List.getElem_cons_succ]
            exact RG.RunsIf.nil
          refine RG.wpL_done (by kernel_rfl) ?_ _
          refine NoPanic.normal ?_
          go_wp2
          refine HKK.out _ _ ?_
          clear HKK KK
          have HA4 : Hid (A3 = strOfNums (lnL kd p S T 10)) := by
            show A3 = _
            rw [HA3.out, HLq9.out, HWD.out]; simp
          rw [HA4.out]
          clear e1 e2 e3 z1 z1' z2 z3 HA3 HNA HDI HLL HNL HDL HWD hz
          have ceq9y10 := (HW.out _ HTeq9.out).2.2.2.2.1
          by_cases hlq9y10 : T.length = 0
          · have hus : usB kd p S T ((10 : Nat) + 1 : Int) = true := by
              show usB kd p S T 11 = true
              rw [usB_pers]; simp [hlq9y10]
            have HLq9y10 := TW.hide (lnL_eq (k := 10) hus)
            have hz : ¬ (0 : Int) < ((T.length : Nat) : Int) := by omega
            rw [← HLq9y10.out]
            clear hus
            refine wp_seq_k fun KK hK => ?_
            have HK := TW.hide hK
            clear hK
            go_wp2
            refine HK.out _ _ ?_
            clear HK KK
            go_wp2
            go_ret2
            exact ⟨rfl, (HW.out _ HTeq9.out).2.2.2.2.2⟩
          · have hus : usB kd p S T ((10 : Nat) + 1 : Int) = false := by
              show usB kd p S T 11 = false
              rw [usB_pers]; simpa using hlq9y10
            have HLq9y10 := TW.hide (lnL_ne (k := 10) hus)
            have hz : (0 : Int) < ((T.length : Nat) : Int) := by omega
            have HWD : Hid (wdL p S T ((10 : Nat) + 1 : Int) = [32] ++ nmL 11 ++ [61] ++ hx T) := rfl
            have HLL := TW.hide (HLEN.out 10 (by omega))
            have HNL := TW.hide (nmL_len 11)
            have HDL : Hid ((hx T).length ≤ 128) := by show _ ≤ _; rw [hx_length]; omega
            have HNA := TW.hide (fun W => rname 11 (by omega) (by omega) W)
            have HDI := TW.hide (fun W (h : Pb W a2 c2 T) => rhex a2 c2 T W h.byt h.row (by omega))
            clear hus
            refine wp_seq_k fun KK hK => ?_
            have HKK := TW.hide hK
            clear hK
            go_wp2
            obtain ⟨L0, hL0⟩ : ∃ L0, L0 = strOfNums (lnL kd p S T 10) := ⟨_, rfl⟩
            obtain ⟨L1, hL1⟩ : ∃ L1, L1 = strOfNums (nmL 11 ++ [61]) := ⟨_, rfl⟩
            obtain ⟨L2, hL2⟩ : ∃ L2, L2 = strOfNums (hx T) := ⟨_, rfl⟩
            obtain ⟨A1, hA1⟩ : ∃ A1, A1 = L0 ++ ({ data := #[32] } : ByteArray) := ⟨_, rfl⟩
            obtain ⟨A2, hA2⟩ : ∃ A2, A2 = A1 ++ L1 := ⟨_, rfl⟩
            obtain ⟨A3, hA3⟩ : ∃ A3, A3 = A2 ++ L2 := ⟨_, rfl⟩
            have hA1' : A1 = strOfNums ((lnL kd p S T 10) ++ [32]) := by rw [hA1, hL0, ← strOf_append (lnL kd p S T 10)]; rfl
            have hA2' : A2 = strOfNums ((lnL kd p S T 10) ++ [32] ++ (nmL 11 ++ [61])) := by rw [hA2, hA1', hL1, strOf_append]
            have hA3' : A3 = strOfNums ((lnL kd p S T 10) ++ [32] ++ (nmL 11 ++ [61]) ++ (hx T)) := by rw [hA3, hA2', hL2, strOf_append]
            have z1 : ¬ 9223372036854775807 < L0.size + ({ data := #[32] } : ByteArray).size := by
              have h1 : ({ data := #[32] } : ByteArray).size = 1 := rfl
              have := HLL.out
              rw [h1, hL0, strOf_size]; omega
            have z1' : ¬ 9223372036854775807 < L0.size + 1 := by
              have := HLL.out
              rw [hL0, strOf_size]; omega
            have z2 : ¬ 9223372036854775807 < A1.size + L1.size := by
              have := HLL.out
              have := HNL.out
              rw [hA1', hL1, strOf_size, strOf_size]; simp; omega
            have z3 : ¬ 9223372036854775807 < A2.size + L2.size := by
              have := HLL.out
              have := HNL.out
              have := HDL.out
              rw [hA2', hL2, strOf_size, strOf_size]; simp; omega
            have HA3 := TW.hide hA3'
            rw [← hL0]
            rw [← hL1] at HNA
            rw [← hL2] at HDI
            have e1 := hA1.symm
            have e2 := hA2.symm
            have e3 := hA3.symm
            clear hA1 hA2 hA3 hA1' hA2' hA3' hL0 hL1 hL2
            refine wp_region_noPanic ?_
            refine RG.wp_region_L (fun Z => True) (fun Z => Below X5.heap.size X5 Z) [] (by kernel_rfl) ?_
            refine RG.wpL_any fun Yaq9y10 hY => ?_
            have HTaq9y10 : Hid (Below X5.heap.size X5 Yaq9y10) := by rw [hY]; exact below_drewN HTeq9.out 1
            clear hY
            refine RG.wpL_take (fuel := 5) (a' := ?Aaq9y10) [0, 1, 4, 5] (by kernel_rfl) (by kernel_rfl) (fun _ _ _ _ _ h => h) HTaq9y10.out (fun _ => trivial) ?raq9y10 ?_
            case raq9y10 =>
              refine RG.RunsIf.weak (v := ?_) (by rfl) (by rfl) (fun Z hT => ?_) ?_
              rotate_left
              · go_simp
                rfl
              simp only [Act.put, List.setIfInBounds_toArray, List.set_cons_zero, List.set_cons_succ, List.getElem_toArray, List.getElem_cons_zero, List.getElem_cons_succ]
              refine RG.RunsIf.weak (v := ?_) (by rfl) (by rfl) (fun Z hT => ?_) ?_
              rotate_left
              · go_simp
                rfl
              simp only [Act.put, List.setIfInBounds_toArray, List.set_cons_zero, List.set_cons_succ, List.getElem_toArray, List.getElem_cons_zero, List.getElem_cons_succ]
              refine RG.RunsIf.weak (v := ?_) (by rfl) (by rfl) (fun Z hT => ?_) ?_
              rotate_left
              · go_simp
                rfl
              simp only [Act.put, List.setIfInBounds_toArray, List.set_cons_zero, List.set_cons_succ, List.getElem_toArray, List.getElem_cons_zero, List.getElem_cons_succ]
              refine RG.RunsIf.weak (v := ?_) (by rfl) (by rfl) (fun Z hT => ?_) ?_
              rotate_left
              · have cz := (HW.out Z hT).2.2.2.2.1
                go_simp
                rfl
              simp only [Act.put, List.setIfInBounds_toArray, List.set_cons_zero, List.set_cons_succ, List.getElem_toArray, List.getElem_cons_zero, List.getElem_cons_succ]
              exact RG.RunsIf.nil
            refine RG.wpL_step (i := 2) (by kernel_rfl) (by rfl) (by rfl) (fun KX hK => ?_)
            have HK := TW.hide hK
            clear hK
            go_simp
            refine (HNA.out _).mono ?_
            rintro e w' ⟨rfl, rfl⟩
            refine HK.out _ _ HTaq9y10.out (fun _ => trivial) ?_
            clear HK KX
            try simp only [Act.put, List.setIfInBounds_toArray, List.set_cons_zero, List.set_cons_succ, List.getElem_toArray, List.getElem_cons_zero, List.getElem_cons_succ]
            refine RG.wpL_take (fuel := 3) (a' := ?Acq9y10) [3] (by kernel_rfl) (by kernel_rfl) (fun _ _ _ _ _ h => h) HTaq9y10.out (fun _ => trivial) ?rcq9y10 ?_
            case rcq9y10 =>
              refine RG.RunsIf.weak (v := ?_) (by rfl) (by rfl) (fun Z hT => ?_) ?_
              rotate_left
              · go_simp
                rfl
              simp only [Act.put, List.setIfInBounds_toArray, List.set_cons_zero, List.set_cons_succ, List.getElem_toArray, List.getElem_cons_zero, List.getElem_cons_succ]
              exact RG.RunsIf.nil
            refine RG.wpL_step (i := 6) (by kernel_rfl) (by rfl) (by rfl) (fun KX hK => ?_)
            have HK := TW.hide hK
            clear hK
            go_simp
            refine (HDI.out _ ((HW.out _ HTaq9y10.out).2.2.1)).mono ?_
            rintro e w3q9y10 ⟨rfl, hb2⟩
            have HTeq9y10 : Hid (Below X5.heap.size X5 w3q9y10) := below_row HTaq9y10.out hb2 HTaq9y10.out.size
            refine HK.out _ _ HTeq9y10.out (fun _ => trivial) ?_
            clear HK KX hb2 HTaq9y10
            try simp only [Act.put, List.setIfInBounds_toArray, List.set_cons_zero, List.set_cons_succ, List.getElem_toArray, List.getElem_cons_zero, List.getElem_cons_succ]
            refine RG.wpL_take (fuel := 0) (a' := ?Abq9y10) [7, 8] (by kernel_rfl) (by kernel_rfl) (fun _ _ _ _ _ h => h) HTeq9y10.out (fun _ => trivial) ?rbq9y10 ?_
            case rbq9y10 =>
              refine RG.RunsIf.weak (v := ?_) (by rfl) (by rfl) (fun Z hT => ?_) ?_
              rotate_left
              · go_simp
                rfl
              simp only [Act.put, List.setIfInBounds_toArray, List.set_cons_zero, List.set_cons_succ, List.getElem_toArray, List.getElem_cons_zero, List.getElem_cons_succ]
              refine RG.RunsIf.weak (v := ?_) (by rfl) (by rfl) (fun Z hT => ?_) ?_
              rotate_left
              · go_simp
                rfl
              simp only [Act.put, List.setIfInBounds_toArray, List.set_cons_zero, List.set_cons_succ, List.getElem_toArray, List.getElem_cons_zero, List.getElem_cons_succ]
              exact RG.RunsIf.nil
            refine RG.wpL_done (by kernel_rfl) ?_ _
            refine NoPanic.normal ?_
            go_wp2
            refine HKK.out _ _ ?_
            clear HKK KK
            have HA4 : Hid (A3 = strOfNums (lnL kd p S T 11)) := by
              show A3 = _
              rw [HA3.out, HLq9y10.out, HWD.out]; simp
            rw [HA4.out]
            clear e1 e2 e3 z1 z1' z2 z3 HA3 HNA HDI HLL HNL HDL HWD hz
            go_wp2
            go_ret2
            exact ⟨rfl, (HW.out _ HTeq9y10.out).2.2.2.2.2⟩
end LW
end Go.Proofs.YteakoajkmcbilabDoor
