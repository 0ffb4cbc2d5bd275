/-
  Small floats: Mini of the program, and the reference at NaNs and infinities.
-/
import Derived.Test.YtbenjfipbeikmaaMin3
namespace Go.Proofs.Ytbenjfipbeikmaa
open Go.RowKit
open Ieee (Datum Format)

@[go_sem] theorem build_fmt (a b : Int) (w : World) : (Instr.build 71 #[(0, .int .i64 a), (1, .int .i64 b)]).run Try.prog w = .ok (.agg #[.int .i64 a, .int .i64 b]) w := run_build w 71 _ _ (by kernel_rfl)

/-- The variable that holds the format is as it was laid. -/
def Held (W w : World) (E F : Int) : Prop := w.cell? ⟨W.heap.size, 0, none⟩ = some (.int .i64 E) ∧ w.cell? ⟨W.heap.size, 1, none⟩ = some (.int .i64 F) ∧ KeptIn W w

theorem held0 (w : World) (E F : Int) (T : TypeId) : Held w (w.alloc (.cells #[.int .i64 E, .int .i64 F] T)) E F :=
  ⟨by rw [World.cell?_alloc_new]; rfl, by rw [World.cell?_alloc_new]; rfl, ⟨by simp, (Grown.refl w).alloc _ _⟩⟩
theorem held_next {W w w' : World} {E F : Int} (g : Grown w w') (h : Held W w E F) : Held W w' E F := held_on g h
theorem held_draw {W w : World} {E F : Int} (n : Nat) (h : Held W w E F) : Held W (w.drewN n) E F := ⟨h.1, h.2.1, ⟨h.2.2.lt, h.2.2.grown⟩⟩

/-- What Mini of v means in the format: n. -/
def MV (E F v n : Nat) : Prop :=
  (isN .f32 v = true ∧ n = allN E F + 2 ^ (F - 1)) ∨
  (∃ s, FloatKind.f32.format.read v = .infinity s ∧ n = (if s = true then topN E F else 0) + allN E F) ∨
  (∃ s m p r, FloatKind.f32.format.read v = .number s m p ∧ MiniSpec E F (m * 2 ^ (p + 1074).toNat) r ∧ n = (if s = true then topN E F else 0) + r)

theorem MV_unique {E F v n n' : Nat} (h : MV E F v n) (h' : MV E F v n') : n = n' := by
  rcases h with ⟨a, rfl⟩ | ⟨s, a, rfl⟩ | ⟨s, m, p, r, a, b, rfl⟩ <;> rcases h' with ⟨c, rfl⟩ | ⟨t, c, rfl⟩ | ⟨t, m', p', r', c, d, rfl⟩
  · rfl
  · unfold isN at a; rw [c] at a; cases a
  · unfold isN at a; rw [c] at a; cases a
  · unfold isN at c; rw [a] at c; cases c
  · rw [a] at c; cases c; rfl
  · rw [a] at c; cases c
  · unfold isN at c; rw [a] at c; cases c
  · rw [a] at c; cases c
  · rw [a] at c; cases c; rw [miniSpec_unique b d]

theorem read_cases (v : Nat) : isN .f32 v = true ∨ (∃ s, FloatKind.f32.format.read v = .infinity s) ∨ ∃ s m p, FloatKind.f32.format.read v = .number s m p := by
  cases h : FloatKind.f32.format.read v with
  | nan s t => left; unfold isN; rw [h]; rfl
  | infinity s => exact Or.inr (Or.inl ⟨s, rfl⟩)
  | number s m p => exact Or.inr (Or.inr ⟨s, m, p, rfl⟩)

theorem inf_facts {v : Nat} {s : Bool} (h : FloatKind.f32.format.read v = .infinity s) : isN .f32 v = false ∧ absB (wid v) = 9218868437227405312 ∧ sgnB (wid v) = s := by
  have hw : wid v = FloatKind.f64.format.word s FloatKind.f64.format.infRung := by
    show FloatKind.f64.format.write (FloatKind.f32.format.read v) = _
    rw [h]; rfl
  refine ⟨by unfold isN; rw [h]; rfl, ?_, ?_⟩
  · unfold absB; rw [andNot_top _ (wid_lt v), hw]; cases s <;> decide +kernel
  · unfold sgnB; rw [hw]; cases s <;> decide +kernel

theorem inf_order {y B : Nat} (hy : Pos y B) : FloatKind.f64.format.order 9218868437227405312 y = some .gt := by
  obtain ⟨k, j, hr, _⟩ := hy
  have c : FloatKind.f64.format.read 9218868437227405312 = .infinity false := by decide +kernel
  unfold Format.order
  rw [c, hr]; rfl

def GivesMV (E F v : Nat) (w : World) (e : Ending) (w' : World) : Prop := ∃ n k : Nat, e = .returned (.int .i64 (n : Int)) ∧ MV E F v n ∧ w' = w.drewN k

theorem Fmt.half {E F : Nat} (h : Fmt E F) : (1 : Int) ≤ 2 ^ (F - 1) ∧ (2 : Int) ^ (F - 1) ≤ 4194304 := pow_bd (F - 1) 0 22 (by omega) (by have := h.f2; omega)

set_option maxRecDepth 100000 in
theorem miniOf_nan (v E F : Nat) (h : Fmt E F) (hn : isN .f32 v = true) (w : World) :
    Calls Try.prog 48 #[.float .f32 v, .int .i64 (E : Int), .int .i64 (F : Int)] w (GivesMV E F v w) := by
  have e1 := ne_self .f32 v
  rw [hn] at e1
  have HV := hid (show MV E F v (allN E F + 2 ^ (F - 1)) from Or.inl ⟨hn, rfl⟩)
  clear hn
  obtain ⟨pe1, pe2⟩ := h.pe
  obtain ⟨pf1, pf2⟩ := h.pf
  obtain ⟨pa1, pa2⟩ := h.all
  obtain ⟨pt1, pt2⟩ := h.half
  obtain ⟨d0, d1, d2, d3⟩ := all_div E F h
  obtain ⟨b1, b2, b3, b4⟩ := id h
  have hall := (allN_cast E F).symm
  have HC := hid (pow_cast (F - 1))
  clear d0 d1
  go_enter Try.func48, Try.ntmps48
  go_wp2
  go_ret
  exact ⟨_, 0, by rw [Int.natCast_add, HC.out]; rfl, HV.out, rfl⟩

set_option maxRecDepth 100000 in
set_option maxHeartbeats 1000000 in
theorem miniOf_infneg (v E F : Nat) (h : Fmt E F) (hr : FloatKind.f32.format.read v = .infinity true) (w : World) :
    Calls Try.prog 48 #[.float .f32 v, .int .i64 (E : Int), .int .i64 (F : Int)] w (GivesMV E F v w) := by
  obtain ⟨hn, ha, hs⟩ := inf_facts hr
  have HV := hid (show MV E F v (topN E F + allN E F) from Or.inr (Or.inl ⟨true, hr, by simp⟩))
  clear hr
  have e1 := ne_self .f32 v
  rw [hn] at e1
  have c1 := fun w => fcvv (widen_some v hn) w
  have c2 := fcdv (widen_some v hn)
  have hw64 := wid_lt v
  obtain ⟨pe1, pe2⟩ := h.pe
  obtain ⟨pf1, pf2⟩ := h.pf
  obtain ⟨pa1, pa2⟩ := h.all
  obtain ⟨pt1, pt2⟩ := h.top
  obtain ⟨d0, d1, d2, d3⟩ := all_div E F h
  obtain ⟨b1, b2, b3, b4⟩ := id h
  have ht : ((E : Int) + (F : Int)).toNat = E + F := by omega
  have hall := (allN_cast E F).symm
  have htop : (2 : Int) ^ (E + F) = ((topN E F : Nat) : Int) := (pow_cast (E + F)).symm
  have htb : topN E F ≤ 2147483648 := by omega
  have ho := inf_order (pos_svW E F (allN E F) h d1)
  clear d0 hn
  go_enter Try.func48, Try.ntmps48
  go_wp2_with (first | (go_at_call 86; refine (signbit_any _ hw64 _).mono ?_; rintro e w' ⟨rfl, rfl⟩) | (go_at_call 13; refine (abs_any _ _).mono ?_; rintro e w' ⟨rfl, rfl⟩; rw [ha]) | (go_at_call 89; refine (small_any (allN E F) E F h (by omega) d1 _).mono ?_; rintro e w' ⟨rfl, k, rfl⟩))
  go_ret
  exact ⟨_, _, by first | rfl | (rw [Nat.zero_add]; rfl) | simp, HV.out, rfl⟩

set_option maxRecDepth 100000 in
set_option maxHeartbeats 1000000 in
theorem miniOf_infpos (v E F : Nat) (h : Fmt E F) (hr : FloatKind.f32.format.read v = .infinity false) (w : World) :
    Calls Try.prog 48 #[.float .f32 v, .int .i64 (E : Int), .int .i64 (F : Int)] w (GivesMV E F v w) := by
  obtain ⟨hn, ha, hs⟩ := inf_facts hr
  have HV := hid (show MV E F v (0 + allN E F) from Or.inr (Or.inl ⟨false, hr, by simp⟩))
  clear hr
  have e1 := ne_self .f32 v
  rw [hn] at e1
  have c1 := fun w => fcvv (widen_some v hn) w
  have c2 := fcdv (widen_some v hn)
  have hw64 := wid_lt v
  obtain ⟨pe1, pe2⟩ := h.pe
  obtain ⟨pf1, pf2⟩ := h.pf
  obtain ⟨pa1, pa2⟩ := h.all
  obtain ⟨pt1, pt2⟩ := h.top
  obtain ⟨d0, d1, d2, d3⟩ := all_div E F h
  obtain ⟨b1, b2, b3, b4⟩ := id h
  have ht : ((E : Int) + (F : Int)).toNat = E + F := by omega
  have hall := (allN_cast E F).symm
  have htop : (2 : Int) ^ (E + F) = ((topN E F : Nat) : Int) := (pow_cast (E + F)).symm
  have htb : topN E F ≤ 2147483648 := by omega
  have ho := inf_order (pos_svW E F (allN E F) h d1)
  clear d0 hn
  go_enter Try.func48, Try.ntmps48
  go_wp2_with (first | (go_at_call 86; refine (signbit_any _ hw64 _).mono ?_; rintro e w' ⟨rfl, rfl⟩) | (go_at_call 13; refine (abs_any _ _).mono ?_; rintro e w' ⟨rfl, rfl⟩; rw [ha]) | (go_at_call 89; refine (small_any (allN E F) E F h (by omega) d1 _).mono ?_; rintro e w' ⟨rfl, k, rfl⟩))
  go_ret
  exact ⟨_, _, by first | rfl | (rw [Nat.zero_add]; rfl) | simp, HV.out, rfl⟩

theorem miniOf_any (v E F : Nat) (h : Fmt E F) (w : World) :
    Calls Try.prog 48 #[.float .f32 v, .int .i64 (E : Int), .int .i64 (F : Int)] w (GivesMV E F v w) := by
  rcases read_cases v with hn | ⟨s, hs⟩ | ⟨s, m, p, hs⟩
  · exact miniOf_nan v E F h hn w
  · cases s
    · exact miniOf_infpos v E F h hs w
    · exact miniOf_infneg v E F h hs w
  · obtain ⟨hv, hm, hu⟩ := wid_val hs
    have hsg := (wid_abs hs).2
    cases s
    · refine (miniOf_pos v E F _ m _ h (isN_of_read hs) hsg hv rfl hm (by omega) w).mono ?_
      rintro e w' ⟨r, k, rfl, hr, rfl⟩
      exact ⟨r, k, by simp, Or.inr (Or.inr ⟨false, m, p, r, hs, hr, by simp⟩), rfl⟩
    · refine (miniOf_neg v E F _ m _ h (isN_of_read hs) hsg hv rfl hm (by omega) w).mono ?_
      rintro e w' ⟨r, k, rfl, hr, rfl⟩
      exact ⟨topN E F + r, k, by rw [Int.natCast_add], Or.inr (Or.inr ⟨true, m, p, r, hs, hr, by simp⟩), rfl⟩
end Go.Proofs.Ytbenjfipbeikmaa
