/-
  Compressing a channel: the program and the reference.
-/
import Derived.Test.YthoiiccecneefaaQPf
import Derived.Test.YthoiiccecneefaaQGn
namespace Go.Proofs.Ythoiiccecneefaa
open Go.RowKit Go.Shelf
open Ieee (Datum Format signed)
attribute [local go_sem] run_store_float

/-- How far a channel is from the greatest one, and what becomes of that. -/
def cmpD (a c : Nat) : Nat := cop .quo .f32 (cop .sub .f32 a c) a
def cmpX (a c f : Nat) : Nat := cop .quo .f32 (cop .sub .f32 (cmpD a c) f) (cop .sub .f32 1065353216 f)
def cmpY (X : Nat) : Nat := if gtB X 2139095039 = true then 1065353216 else cop .quo .f32 X (cop .add .f32 1065353216 X)
def cmpC (a c f : Nat) : Nat :=
  if gtB (cmpD a c) f = true then cop .sub .f32 a (cop .mul .f32 (cop .add .f32 f (cop .mul .f32 (cop .sub .f32 1065353216 f) (cmpY (cmpX a c f)))) a) else cl c

/-- A share below 1. -/
def frmB (f : Nat) : Bool := (FloatKind.f32.format.order f 0 == some .gt || FloatKind.f32.format.order f 0 == some .eq) && FloatKind.f32.format.order f 1065353216 == some .lt

theorem cmp_facts {a c f : Nat} (ha : gtB a 0 = true) (hfa : fin a = true) (hc : fin c = true) (hf : fin f = true) (hfr : frmB f = true) :
    ∃ S D, floatBits .sub .f32 a c = some S ∧ floatBits .quo .f32 S a = some D ∧ cmpD a c = D ∧
      ((∃ o, FloatKind.f32.format.order D f = some o ∧ (o = .lt ∨ o = .eq) ∧ gtB (cmpD a c) f = false) ∨
       (FloatKind.f32.format.order D f = some .gt ∧ gtB (cmpD a c) f = true ∧ ∃ U V X, floatBits .sub .f32 D f = some U ∧ floatBits .sub .f32 1065353216 f = some V ∧ floatBits .quo .f32 U V = some X ∧ cmpX a c f = X ∧ cop .sub .f32 1065353216 f = V ∧ isN .f32 X = false ∧ infB (wid X) = gtB X 2139095039)) := by
  have ha' : FloatKind.f32.format.order a 0 = some .gt := eq_of_beq ha
  obtain ⟨n, j, hra, hn⟩ := gt_zero hfa ha'
  have hS := sub_fin (fin_not_nan hfa) hc
  have hSn := floatBits_not_nan hS
  obtain ⟨D, hD, _⟩ := quo_some hSn hra hn
  have hDn := floatBits_not_nan hD
  have eD : cmpD a c = D := cop_some hD
  refine ⟨_, D, hS, hD, eD, ?_⟩
  rw [eD]
  obtain ⟨o, ho⟩ := order_some hDn (fin_not_nan hf)
  unfold frmB at hfr
  rw [Bool.and_eq_true, Bool.or_eq_true] at hfr
  have h0 : FloatKind.f32.format.order f 0 = some .gt ∨ FloatKind.f32.format.order f 0 = some .eq := hfr.1.imp (fun h => eq_of_beq h) (fun h => eq_of_beq h)
  have h1 : FloatKind.f32.format.order f 1065353216 = some .lt := eq_of_beq hfr.2
  cases o with
  | lt => exact Or.inl ⟨.lt, ho, Or.inl rfl, by unfold gtB; rw [ho]; rfl⟩
  | eq => exact Or.inl ⟨.eq, ho, Or.inr rfl, by unfold gtB; rw [ho]; rfl⟩
  | gt =>
    right
    obtain ⟨U, hU, nU⟩ := sub_gt hf ho
    obtain ⟨⟨k, p, hrV, hk⟩, hV⟩ := one_less hf h0 h1
    have nV : NN .f32 (cop .sub .f32 1065353216 f) := ⟨by rw [hrV]; rfl, by rw [hrV]; rfl⟩
    obtain ⟨X, hX, nX⟩ := quo_some nU.1 hrV hk
    have nX' := nX nU rfl
    exact ⟨ho, by unfold gtB; rw [ho]; rfl, U, _, X, hU, hV, hX, by unfold cmpX; rw [eD, cop_some hU, cop_some hX], rfl, nX'.1, inf_same nX'⟩

theorem fin_cl {c : Nat} (h : fin c = true) : cl c = c := cn_of_not (fin_not_nan h)

set_option maxRecDepth 100000 in
set_option maxHeartbeats 4000000 in
theorem compressed_any (a c f : Nat) (w : World) (ha : gtB a 0 = true) (hfa : fin a = true) (hc : fin c = true) (hf : fin f = true) (hfr : frmB f = true) :
    Calls Try.prog 88 #[.float .f32 a, .float .f32 c, .float .f32 f] w fun e w' => ∃ v, e = .returned (.float .f32 v) ∧ cl v = cmpC a c f ∧ ∃ n, w' = w.drewN n := by
  obtain ⟨S, D, hS, hD, eD, hor⟩ := cmp_facts ha hfa hc hf hfr
  have s1 := fun w => fopv hS w
  have s2 := fdrv hS
  have d1 := fun w => fopv hD w
  have d2 := fdrv hD
  clear hS hD ha hfa hfr
  rcases hor with ⟨o, ho, ho2, hg⟩ | ⟨ho, hg, U, V, X, hU, hV, hX, eX, eV, nX, hI⟩
  · have HE : RowKit.Hid (cmpC a c f = cl c) := hid (by unfold cmpC; rw [if_neg (by rw [hg]; simp)])
    have hle : (FloatKind.f32.format.order D f == some .lt || FloatKind.f32.format.order D f == some .eq) = true := by
      rw [ho]
      rcases ho2 with rfl | rfl <;> rfl
    clear ho ho2 hg eD
    go_enter Try.func88, Try.ntmps88
    go_wp2_with fail
    go_ret
    exact ⟨_, rfl, HE.out.symm, 0, rfl⟩
  · have u1 := fun w => fopv hU w
    have u2 := fdrv hU
    have v1 := fun w => fopv hV w
    have v2 := fdrv hV
    have x1 := fun w => fopv hX w
    have x2 := fdrv hX
    have c1 := fun w => fcvv (widen_some X nX) w
    have c2 := fcdv (widen_some X nX)
    have hle : (FloatKind.f32.format.order D f == some .lt || FloatKind.f32.format.order D f == some .eq) = false := by rw [ho]; rfl
    have HE : RowKit.Hid (cmpC a c f = cop .sub .f32 a (cop .mul .f32 (cop .add .f32 f (cop .mul .f32 V (cmpY X))) a)) := hid (by unfold cmpC; rw [if_pos hg, eX, eV])
    have HI := hid hI
    clear ho hg eD hU hV hX eX eV nX hI
    cases hb : gtB X 2139095039
    · have HY : RowKit.Hid (cmpY X = cop .quo .f32 X (cop .add .f32 1065353216 X)) := hid (by unfold cmpY; rw [if_neg (by rw [hb]; simp)])
      rw [hb] at HI
      clear hb
      go_enter Try.func88, Try.ntmps88
      go_wp2_with (go_at_call 111; refine (isInf_any _ _).mono ?_; rintro e w' ⟨rfl, rfl⟩; rw [HI.out])
      go_ret
      refine ⟨_, rfl, ?_, by first | exact ⟨_, rfl⟩ | exact ⟨_, (World.drewN_drewN ..)⟩⟩
      rw [HE.out, HY.out]
      exact (cnf rfl (cnf (cnf rfl (cnf rfl ((cnf rfl (cnf rfl rfl)).trans (congrArg (cn .f32) rfl)))) rfl)).trans (cn_cop ..)
    · have HY : RowKit.Hid (cmpY X = 1065353216) := hid (by unfold cmpY; rw [if_pos hb])
      rw [hb] at HI
      clear hb
      go_enter Try.func88, Try.ntmps88
      go_wp2_with (go_at_call 111; refine (isInf_any _ _).mono ?_; rintro e w' ⟨rfl, rfl⟩; rw [HI.out])
      go_ret
      refine ⟨_, rfl, ?_, by first | exact ⟨_, rfl⟩ | exact ⟨_, (World.drewN_drewN ..)⟩⟩
      rw [HE.out, HY.out]
      exact (cnf rfl (cnf (cnf rfl (cnf rfl rfl)) rfl)).trans (cn_cop ..)

set_option maxRecDepth 100000 in
set_option maxHeartbeats 4000000 in
theorem compr1_any (a c f ba bf : Nat) (w : World) (ha : gtB a 0 = true) (hfa : fin a = true) (hc : fin c = true) (hf : fin f = true) (hfr : frmB f = true)
    (hba : Blk w ba 40 #[.float .f32 a]) (hbf : Blk w bf 40 #[.float .f32 f]) :
    Calls Try.prog 90 #[.float .f32 c, .pointer (some ⟨ba, 0, none⟩), .pointer (some ⟨bf, 0, none⟩)] w fun e w' => e = .returned (.float .f32 (cmpC a c f)) ∧ ∃ n, w' = w.drewN n := by
  obtain ⟨S, D, hS, hD, eD, hor⟩ := cmp_facts ha hfa hc hf hfr
  have a0 := hba.cell 0
  have f0 := hbf.cell 0
  simp at a0 f0
  have s1 := fun w => fopv hS w
  have s2 := fdrv hS
  have d1 := fun w => fopv hD w
  have d2 := fdrv hD
  have HCC := hid (fin_cl hc)
  clear hS hD ha hfa hfr hba hbf
  rcases hor with ⟨o, ho, ho2, hg⟩ | ⟨ho, hg, U, V, X, hU, hV, hX, eX, eV, nX, hI⟩
  · have HE : RowKit.Hid (cmpC a c f = c) := hid (by unfold cmpC; rw [if_neg (by rw [hg]; simp)]; exact HCC.out)
    have hle : (FloatKind.f32.format.order D f == some .gt) = false := by
      rw [ho]
      rcases ho2 with rfl | rfl <;> rfl
    clear ho ho2 hg eD
    go_enter Try.func90, Try.ntmps90
    go_wp2_with fail
    go_ret
    exact ⟨ret_f' HE.out.symm, 0, rfl⟩
  · have u1 := fun w => fopv hU w
    have u2 := fdrv hU
    have v1 := fun w => fopv hV w
    have v2 := fdrv hV
    have x1 := fun w => fopv hX w
    have x2 := fdrv hX
    have hle : (FloatKind.f32.format.order D f == some .gt) = true := by rw [ho]; rfl
    have HE : RowKit.Hid (cmpC a c f = cop .sub .f32 a (cop .mul .f32 (cop .add .f32 f (cop .mul .f32 V (cmpY X))) a)) := hid (by unfold cmpC; rw [if_pos hg, eX, eV])
    clear ho hg eD hU hV hX eX eV nX hI
    cases hb : gtB X 2139095039
    · have HY : RowKit.Hid (cmpY X = cop .quo .f32 X (cop .add .f32 1065353216 X)) := hid (by unfold cmpY; rw [if_neg (by rw [hb]; simp)])
      have hb2 : (FloatKind.f32.format.order X 2139095039 == some .gt) = false := hb
      clear hb
      go_enter Try.func90, Try.ntmps90
      go_wp2_with (go_at_call 42; refine (fix_any _ _).mono ?_; rintro e w' ⟨rfl, rfl⟩)
      go_ret
      refine ⟨ret_f' ?_, by first | exact ⟨_, rfl⟩ | exact ⟨_, (World.drewN_drewN ..)⟩⟩
      rw [HE.out, HY.out]
      exact (cnf rfl (cnf (cnf rfl (cnf rfl ((cnf rfl (cnf rfl rfl)).trans (congrArg (cn .f32) rfl)))) rfl)).trans (cn_cop ..)
    · have HY : RowKit.Hid (cmpY X = 1065353216) := hid (by unfold cmpY; rw [if_pos hb])
      have hb2 : (FloatKind.f32.format.order X 2139095039 == some .gt) = true := hb
      clear hb
      go_enter Try.func90, Try.ntmps90
      go_wp2_with (go_at_call 42; refine (fix_any _ _).mono ?_; rintro e w' ⟨rfl, rfl⟩)
      go_ret
      refine ⟨ret_f' ?_, by first | exact ⟨_, rfl⟩ | exact ⟨_, (World.drewN_drewN ..)⟩⟩
      rw [HE.out, HY.out]
      exact (cnf rfl (cnf (cnf rfl (cnf rfl rfl)) rfl)).trans (cn_cop ..)
end Go.Proofs.Ythoiiccecneefaa
