/-
  Clip of the program.
-/
import Derived.Test.YthoiiccecneefaaQPg
import Derived.Deep.RegionHeld3
namespace Go.Proofs.Ythoiiccecneefaa
open Go.RowKit Go.Shelf
attribute [local go_sem] run_store_float

/-- Does a limit change a single? -/
def dfB (lo hi v : Nat) : Bool := !(cl (limC v lo hi) == cl v)
/-- How many of the first channels a limit changes. -/
def cntC (P : Nat → Nat) (lo hi : Nat) : Nat → Nat
  | 0 => 0
  | k + 1 => cntC P lo hi k + (if dfB lo hi (P k) = true then 1 else 0)
theorem cntC_le (P : Nat → Nat) (lo hi : Nat) : ∀ k, cntC P lo hi k ≤ k
  | 0 => Nat.le_refl _
  | k + 1 => by
    have := cntC_le P lo hi k
    unfold cntC
    split <;> omega
def clE (lo hi : Nat) : Int := if (fin lo && fin hi) = true then (if (FloatKind.f32.format.order hi lo == some .lt) = true then 8 else 0) else 2

theorem df_facts (lo hi v : Nat) (b : Bool) (h : dfB lo hi v = b) : (((cl (limC v lo hi) : Nat) : Int) == ((cl v : Nat) : Int)) = !b ∧ (((cl (limC v lo hi) : Nat) : Int) != ((cl v : Nat) : Int)) = b := by
  unfold dfB at h
  have e : (((cl (limC v lo hi) : Nat) : Int) == ((cl v : Nat) : Int)) = (cl (limC v lo hi) == cl v) := by
    by_cases h1 : cl (limC v lo hi) = cl v
    · rw [h1]; simp
    · rw [beq_eq_false_iff_ne.2 h1, beq_eq_false_iff_ne.2 (by omega)]
  have e2 : (((cl (limC v lo hi) : Nat) : Int) != ((cl v : Nat) : Int)) = !(cl (limC v lo hi) == cl v) := by unfold bne; rw [e]
  rw [e, e2]
  constructor
  · rw [← h]; simp
  · exact h

theorem KB.setCell_in {w : World} {b : Nat} {k : Nat} {v : Value} : KB (fun g => g = b) w (w.setCell ⟨b, k, none⟩ v) :=
  ⟨rfl, rfl, rfl, by simp, fun g hg hne => by
    have hne' : ¬ b = g := fun e => hne e.symm
    have hs : g < (w.setCell ⟨b, k, none⟩ v).heap.size := by simpa using hg
    rw [Array.getElem?_eq_getElem hs, Array.getElem?_eq_getElem hg]
    simp only [World.setCell, Array.getElem_modify, hne', if_false]⟩

theorem enters_clip1 (args : Array Value) (w : World) : (callFunc 91 args).run Try.prog w = .ok (.enter 91 args) w := enters_of Try.func91 (by kernel_rfl) rfl args w

set_option maxRecDepth 100000 in
set_option maxHeartbeats 4000000 in
theorem clip1_any (i : Int) (v lo hi bl bh bn n : Nat) (w : World) (hn : n ≤ 3) (hl : Blk w bl 40 #[.float .f32 lo]) (hh : Blk w bh 40 #[.float .f32 hi]) (hc : Blk w bn 3 #[.int .i64 n]) :
    Calls Try.prog 91 #[.int .i64 i, .float .f32 v, .pointer (some ⟨bl, 0, none⟩), .pointer (some ⟨bh, 0, none⟩), .pointer (some ⟨bn, 0, none⟩)] w fun e w' => e = .returned (.float .f32 (limC v lo hi)) ∧ Blk w' bn 3 #[.int .i64 ((n + (if dfB lo hi v = true then 1 else 0) : Nat) : Int)] ∧ KB (fun b => b = bn) w w' := by
  have l0 := hl.cell 0
  have h0 := hh.cell 0
  have c0 := hc.cell 0
  have f0 := hc.frozen 0
  simp at l0 h0 c0
  have HC := hid hc
  have hw : IntKind.i64.wrap ((n : Int) + 1) = (n : Int) + 1 := by rw [IntKind.wrap_i64]; omega
  have hn1 : (n : Int) ≤ 3 := by omega
  have hn0 : (0 : Int) ≤ (n : Int) := by omega
  cases hd : dfB lo hi v
  · obtain ⟨z1, z2⟩ := df_facts lo hi v _ hd
    simp only [Bool.not_false] at z1
    clear hl hh hc hd
    go_enter Try.func91, Try.ntmps91
    go_wp2_with (first
      | (go_at_call 71; refine (limn_any _ _ _ _).mono ?_; rintro e w' ⟨rfl, rfl⟩)
      | (go_at_call 50; refine (bits_any _ _).mono ?_; rintro e w' ⟨rfl, rfl⟩))
    go_ret
    exact ⟨rfl, by simpa using HC.out, KB.refl _ _⟩
  · obtain ⟨z1, z2⟩ := df_facts lo hi v _ hd
    simp only [Bool.not_true] at z1
    clear hl hh hc hd
    go_enter Try.func91, Try.ntmps91
    go_wp2_with (first
      | (go_at_call 71; refine (limn_any _ _ _ _).mono ?_; rintro e w' ⟨rfl, rfl⟩)
      | (go_at_call 50; refine (bits_any _ _).mono ?_; rintro e w' ⟨rfl, rfl⟩))
    go_ret
    refine ⟨rfl, ?_, KB.setCell_in⟩
    have := HC.out.set_ 0 (.int .i64 ((n : Int) + 1))
    simpa using this
end Go.Proofs.Ythoiiccecneefaa
