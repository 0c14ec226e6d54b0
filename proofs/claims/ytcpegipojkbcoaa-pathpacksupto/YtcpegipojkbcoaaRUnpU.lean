/-
  What Unpack of the document gives, in one word.
-/
import Derived.Test.YtcpegipojkbcoaaRUnpK
namespace Go.Proofs.Ytcpegipojkbcoaa
open Go.RowKit
set_option linter.unusedVariables false
set_option linter.unusedSimpArgs false
namespace LW
open Words
/-- The two numbers that bytes begin with. -/
def tt (zs : List Int) : Nat := (ld zs 0 8).1.toNat
def ll (zs : List Int) : Nat := (ld zs 8 8).1.toNat
/-- What Unpack tells of errors. -/
def upE (T : Tr) (zs : List Int) : Int :=
  if vd T ≠ 0 then vd T
  else if zs.length < 16 then 3
  else if waE T (tt zs) (ll zs) ≠ 0 then waE T (tt zs) (ll zs)
  else if (zs.length - 16) / T.inn.toNat < szF T (tt zs) (ll zs) then 3
  else if 16 + szF T (tt zs) (ll zs) * T.inn.toNat < zs.length then 9 else 0
/-- The path that bytes tell. -/
def upS (T : Tr) (zs : List Int) : List Stp := if upE T zs = 0 then (List.range ((roL T (tt zs)).length - 1)).map (upT T (tt zs) (roL T (tt zs)) (ll zs) T.inn.toNat zs) else []
def upt (T : Tr) (zs : List Int) : Nat := if upE T zs = 0 then tt zs else 0
def upl (T : Tr) (zs : List Int) : Nat := if upE T zs = 0 then ll zs else 0
/-- What Unpack hands back. -/
def UnpP (T : Tr) (zs : List Int) (w : World) : Ending → World → Prop := fun e w' => ∃ a c, e = .returned (.tuple #[.agg (paC (upt T zs) (upl T zs) a (upS T zs).length c), .int .i64 (upE T zs)]) ∧ Sts w' a (upS T zs) ∧ Below w.heap.size w w'
/-- The same, and that the call owns the steps. -/
def UnpO (T : Tr) (zs : List Int) (w : World) : Ending → World → Prop := fun e w' => ∃ v xs k F, e = .returned (.tuple #[.agg #[.int .u64 (upt T zs), .int .u64 (upl T zs), v], .int .i64 (upE T zs)]) ∧ OwS w' w.heap.size v k F xs ∧ upS T zs = (List.range k).map F ∧ Below w.heap.size w w'
theorem UnpO.p {T : Tr} {zs : List Int} {w : World} {e : Ending} {w' : World} (h : UnpO T zs w e w') : UnpP T zs w e w' := by
  obtain ⟨v, xs, k, F, rfl, ho, hS, hb⟩ := h
  obtain ⟨a, c, rfl, hs⟩ := ho.sts
  refine ⟨a, c, ?_, by rw [hS]; exact hs, hb⟩
  rw [hS, List.length_map, List.length_range]
  rfl
theorem unpE {T : Tr} {zs : List Int} {w : World} {E : Int} (h : upE T zs = E) (hE : E ≠ 0) {e : Ending} {w' : World} (he : e = .returned (.tuple #[.agg #[.int .u64 0, .int .u64 0, .slice none 0 0], .int .i64 E]) ∧ Below w.heap.size w w') : UnpO T zs w e w' := by
  obtain ⟨rfl, hb⟩ := he
  have hne : ¬ upE T zs = 0 := by rw [h]; exact hE
  refine ⟨.slice none 0 0, [], 0, fun _ => ([], []), ?_, ⟨⟨rfl, .inl ⟨rfl, rfl⟩⟩, fun i hi => by omega⟩, ?_, hb⟩
  · unfold upt upl
    rw [if_neg hne, if_neg hne, h]
    rfl
  · unfold upS
    rw [if_neg hne]
    rfl
theorem sz_eq {T : Tr} {n lf : Nat} (hT : 0 ≤ T.lf ∧ T.lf < 4294967296) (hn : n < 18446744073709551616) (h : waE T n lf = 0) : szF T n lf = szN T n (roL T n) lf ((roL T n).length - 1) := by
  rcases waE_cases T n lf with ⟨_, hE, hl⟩ | ⟨h0, _⟩
  · unfold szF
    rw [if_pos h, Nat.mod_eq_of_lt (szN_lt hn (lvE_ok hE) hT.1 (rwsT hT hn hE) hl)]
  · exact absurd h h0
theorem ld_num (zs : List Int) (hz : Byt zs) (a : Int) : (((ld zs a 8).1.toNat : Nat) : Int) = (ld zs a 8).1 ∧ (ld zs a 8).1.toNat < 18446744073709551616 := by
  have h := ld_bd zs a 8 hz
  have h2 : (256 : Int) ^ 8 = 18446744073709551616 := by decide
  rw [h2] at h
  omega
theorem ld_short16 {zs : List Int} (h : zs.length < 16) : (ld zs 0 8).2 ≠ 0 ∨ (ld zs 8 8).2 ≠ 0 := by
  right
  rw [ld_short zs 8 8 (by omega) (by omega)]
  decide
theorem ld_long16 {zs : List Int} (h : 16 ≤ zs.length) : (ld zs 0 8).2 = 0 ∧ (ld zs 8 8).2 = 0 := by
  rw [ld_ok zs 0 8 (by omega) (by omega), ld_ok zs 8 8 (by omega) (by omega)]
  exact ⟨rfl, rfl⟩
theorem runpackO (T : Tr) (hT : 0 ≤ T.lf ∧ T.lf < 4294967296) (a : Option Addr) (cap : Nat) (zs : List Int) (w : World) (hz : Byt zs) (hr : Row w a zs) (hl : zs.length ≤ 1048576) :
    Calls Try.prog 11 #[.agg (trC T), .slice a zs.length cap] w (UnpO T zs w) := by
  have HV := fun W => rvalid T W
  have hL := fun (at_ : Int) (h0 : 0 ≤ at_) (h1 : at_ ≤ 8) W (hW : Below w.heap.size w W) => rload a cap zs at_ 8 W hz (hr.below hW) (Nat.le_trans hl (by unfold maxLen; omega)) (by omega) (by omega) (by omega) (by omega)
  have n0 : ((tt zs : Nat) : Int) = (ld zs 0 8).1 := (ld_num zs hz 0).1
  have m0 : tt zs < 18446744073709551616 := (ld_num zs hz 0).2
  have n8 : ((ll zs : Nat) : Int) = (ld zs 8 8).1 := (ld_num zs hz 8).1
  have H0 := hL 0 (by omega) (by omega)
  have H8 := hL 8 (by omega) (by omega)
  by_cases hv : vd T = 0
  · rw [hv] at HV
    by_cases h16 : zs.length < 16
    · have he : upE T zs = 3 := by unfold upE; rw [if_neg (by simp [hv]), if_pos h16]
      exact (runp2 T a zs.length cap w _ _ _ _ (ld_short16 h16) HV H0 H8).mono fun e w' h => unpE he (by decide) h
    · obtain ⟨z0, z8⟩ := ld_long16 (by omega : 16 ≤ zs.length)
      rw [z0, ← n0] at H0
      rw [z8, ← n8] at H8
      have HZ := fun W => rsize_ T hT (tt zs) m0 (ll zs) W
      by_cases hw : waE T (tt zs) (ll zs) = 0
      · rw [hw] at HZ
        have hin := vd_inn hv
        have hmi : T.inn = ((T.inn.toNat : Nat) : Int) := by omega
        have hszb : szF T (tt zs) (ll zs) < 18446744073709551616 := by
          unfold szF
          rw [if_pos hw]
          exact Nat.mod_lt _ (by omega)
        by_cases hh : (zs.length - 16) / T.inn.toNat < szF T (tt zs) (ll zs)
        · have he : upE T zs = 3 := by unfold upE; rw [if_neg (by simp [hv]), if_neg h16, if_neg (by simp [hw]), if_pos hh]
          exact (runp4 T a zs.length cap w (tt zs) (ll zs) T.inn.toNat (szF T (tt zs) (ll zs)) hmi (by omega) (by omega) (by omega) hl hszb hh HV H0 H8 HZ).mono fun e w' h => unpE he (by decide) h
        · by_cases hm : 16 + szF T (tt zs) (ll zs) * T.inn.toNat < zs.length
          · have he : upE T zs = 9 := by unfold upE; rw [if_neg (by simp [hv]), if_neg h16, if_neg (by simp [hw]), if_neg hh, if_pos hm]
            exact (runp5 T a zs.length cap w (tt zs) (ll zs) T.inn.toNat (szF T (tt zs) (ll zs)) hmi (by omega) (by omega) (by omega) hl (by omega) hm HV H0 H8 HZ).mono fun e w' h => unpE he (by decide) h
          · have he : upE T zs = 0 := by unfold upE; rw [if_neg (by simp [hv]), if_neg h16, if_neg (by simp [hw]), if_neg hh, if_neg hm]
            have hse := sz_eq hT m0 hw
            have hlE : lvE T (tt zs) = 0 ∧ ll zs < (roL T (tt zs)).getD 0 0 := by
              rcases waE_cases T (tt zs) (ll zs) with ⟨_, h1, h2⟩ | ⟨h0, _⟩
              · exact ⟨h1, h2⟩
              · exact absurd hw h0
            have hR := rwsT hT m0 hlE.1
            have hle : szF T (tt zs) (ll zs) ≤ (zs.length - 16) / T.inn.toNat := by omega
            have hq2 : szF T (tt zs) (ll zs) * T.inn.toNat ≤ zs.length - 16 := Nat.le_trans (Nat.mul_le_mul_right _ hle) (Nat.div_mul_le_self _ _)
            refine (runpK T a zs.length cap w (tt zs) (ll zs) (roL T (tt zs)).length zs (aw T (roL T (tt zs)) (ll zs)) (wF T (roL T (tt zs)) (ll zs)) (wT T (tt zs) (roL T (tt zs)) (ll zs)) (szN T (tt zs) (roL T (tt zs)) (ll zs)) (upT T (tt zs) (roL T (tt zs)) (ll zs) T.inn.toNat zs) T.inn.toNat (szF T (tt zs) (ll zs)) hmi (by omega) (by omega) (by omega) hl hle (by omega) HV H0 H8 HZ hR.two hR.most rfl (fun i hi => szN_succ (lvE_ok hlE.1) hR hlE.2 i hi) (fun i hi => ?_) (fun i hi => ?_) (fun i => rfl) (fun W => ?_) (fun W at_ n hW hb => ?_)).mono ?_
            · rw [hse]
              have := szN_mono T (tt zs) (roL T (tt zs)) (ll zs) i ((roL T (tt zs)).length - 1 - i)
              rwa [show i + ((roL T (tt zs)).length - 1 - i) = (roL T (tt zs)).length - 1 by omega] at this
            · have h5 := aw_in (n := tt zs) (lvE_ok hlE.1) hR hlE.2 i hi
              have h6 := wT_lt m0 (lvE_ok hlE.1) hT.1 hR hlE.2 (i + 1) hi
              unfold wF wT at *
              omega
            · refine (rway_ T hT (tt zs) m0 (ll zs) W).mono ?_
              rintro e w' ⟨v, rfl, _, ho, hb⟩
              unfold waK at ho
              rw [if_pos hw] at ho
              rw [hw]
              obtain ⟨g, cap', rfl, _, _, hc⟩ := way_open ho (by have := hR.two; omega)
              exact ⟨g, cap', rfl, fun i hi => ⟨hc i hi 1 _ rfl, hc i hi 2 _ rfl, hc i hi 3 _ rfl⟩, hb⟩
            · have h7 := digests a cap zs at_ n T.inn.toNat W (hr.below hW) hl (by omega) (by omega) hb
              rw [← hmi] at h7
              refine h7.mono ?_
              rintro e w' ⟨v, xs, rfl, ho, hE, hb⟩
              refine ⟨v, rfl, ⟨xs, by rw [dgL_len]; exact ho, by rw [dgL_len]; exact hE.1, fun r hr => ?_⟩, hb⟩
              rw [dgL_len] at hr
              dsimp only
              rw [dgL_get zs at_ _ n r hr]
              exact hE.2 r hr
            · rintro e w' ⟨v, xs, gb, rfl, hgb, ho, hb⟩
              have hS : upS T zs = (List.range ((roL T (tt zs)).length - 1)).map (upT T (tt zs) (roL T (tt zs)) (ll zs) T.inn.toNat zs) := by unfold upS; rw [if_pos he]
              refine ⟨v, xs, _, _, ?_, ho.base hgb, hS, hb⟩
              unfold upt upl
              rw [if_pos he, if_pos he, he]
      · have he : upE T zs = waE T (tt zs) (ll zs) := by unfold upE; rw [if_neg (by simp [hv]), if_neg h16, if_pos hw]
        have hz0 : szF T (tt zs) (ll zs) = 0 := by unfold szF; rw [if_neg hw]
        rw [hz0] at HZ
        exact (runp3 T a zs.length cap w (tt zs) (ll zs) _ hw HV H0 H8 HZ).mono fun e w' h => unpE he hw h
  · have he : upE T zs = vd T := by unfold upE; rw [if_pos hv]
    exact (runp1 T a zs.length cap w (vd T) hv HV).mono fun e w' h => unpE he hv h
theorem runpack_ (T : Tr) (hT : 0 ≤ T.lf ∧ T.lf < 4294967296) (a : Option Addr) (cap : Nat) (zs : List Int) (w : World) (hz : Byt zs) (hr : Row w a zs) (hl : zs.length ≤ 1048576) :
    Calls Try.prog 11 #[.agg (trC T), .slice a zs.length cap] w (UnpP T zs w) :=
  (runpackO T hT a cap zs w hz hr hl).mono fun _ _ h => h.p
end LW
end Go.Proofs.Ytcpegipojkbcoaa
