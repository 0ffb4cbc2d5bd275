/-
  Cubes: three values changed one by one by a function value, in the program.
-/
import Derived.Test.YthnbfllhmjpbjaaKEnt
namespace Go.Proofs.Ythnbfllhmjpbjaa
open Go.RowKit Go.Shelf
attribute [local go_sem] run_store_float

theorem run_index_arr (f : Nat → Nat) (k : Nat) (hk : k < 3) (w : World) : (Instr.index 30 (.agg #[.float .f32 (f 0), .float .f32 (f 1), .float .f32 (f 2)]) (.int .i64 (k : Int))).run Try.prog w = .ok (.float .f32 (f k)) w := by
  have : k = 0 ∨ k = 1 ∨ k = 2 := by omega
  rcases this with h | h | h <;> subst h <;> simp [Instr.index, run_underlying Try.underlying30, asIntOf, go_sem]

/-- What a function value makes of the first three of f. -/
def Alters (K : FuncId) (caps : Array Value) (w : World) (f g : Nat → Nat) : Prop :=
  ∀ (k : Nat) (w1 : World), k < 3 → Below w.heap.size w w1 → Calls Try.prog K (#[.int .i64 k, .float .f32 (f k)] ++ caps) w1 (Gave w1 (g k))

abbrev zarr : Array Value := #[.float .f32 0, .float .f32 0, .float .f32 0]
theorem Blk.set3 {w : World} {b : Nat} {t : TypeId} {c0 c1 c2 : Value} (h : Blk w b t #[c0, c1, c2]) (u0 u1 u2 : Value) : Blk (((w.setCell ⟨b, 0, none⟩ u0).setCell ⟨b, 1, none⟩ u1).setCell ⟨b, 2, none⟩ u2) b t #[u0, u1, u2] := by
  simpa using ((h.set_ 0 u0).set_ 1 u1).set_ 2 u2

structure ERel (f g : Nat → Nat) (w : World) (k : Nat) (wr : World) : Prop where
  b0 : Blk wr w.heap.size 30 (arrA fun j => if j < k then g j else f j)
  b1 : Blk wr (w.heap.size + 1) 30 zarr
  be : Below w.heap.size w wr
theorem ERel.step {f g : Nat → Nat} {w wr : World} {k : Nat} (h : ERel f g w k wr) (hk : k < 3) : ERel f g w (k + 1) (wr.setCell ⟨w.heap.size, k, none⟩ (.float .f32 (g k))) := by
  refine ⟨?_, h.b1.far (by simp) _, h.be.setCell (by simp) _⟩
  have := h.b0.set_ k (.float .f32 (g k))
  have hk4 : k = 0 ∨ k = 1 ∨ k = 2 := by omega
  rcases hk4 with rfl | rfl | rfl <;> simpa [arrA] using this
theorem ERel.below {f g : Nat → Nat} {w wr w1 : World} {k : Nat} (h : ERel f g w k wr) (hb : Below wr.heap.size wr w1) : ERel f g w k w1 :=
  ⟨h.b0.below hb h.b0.lt, h.b1.below hb h.b1.lt, below_to h.be (hb.mono (Nat.le_refl _))⟩

set_option maxRecDepth 100000 in
set_option maxHeartbeats 2000000 in
theorem each_any (K : FuncId) (caps : Array Value) (eK : ∀ (args : Array Value) (w : World), (callFunc K args).run Try.prog w = .ok (.enter K args) w) (f g : Nat → Nat) (w : World) (hG : Alters K caps w f g) :
    Calls Try.prog 65 #[arr f, .func (.func K) #[] caps] w fun e w' => e = .returned (arr g) ∧ Below w.heap.size w w' := by
  have HG := hid hG
  clear hG
  go_enter Try.func65, Try.ntmps65
  go_wp2_with fail
  have hz : ERel f g w 0 ((w.alloc (.cells (arrA f) 30)).alloc (.cells zarr 30)) :=
    ⟨(Blk.new_at _ _ _ rfl).alloc _, Blk.new_at _ _ _ (by simp), ((Below.refl _ _).alloc (Nat.le_refl _) _).alloc (by simp) _⟩
  have HZ := hid hz
  clear hz
  go_loopw [8] (fun i wr => ∃ k : Nat, k ≤ 3 ∧ i = .int .i64 k ∧ ERel f g w k wr) (fun i _ => 3 - (intOf i).toNat)
  case atStart => exact ⟨0, by omega, rfl, HZ.out⟩
  case round =>
    obtain ⟨k, hk, rfl, hrel⟩ := hrel
    clear HZ
    have HR := hid hrel
    by_cases hlt : k < 3
    · have hi := run_index_arr f k hlt
      have hcall := HG.out k wr hlt hrel.be
      have HC := hid hcall
      clear hcall hrel
      have k1 : (0 : Int) ≤ (k : Int) := by omega
      have k2 : (k : Int) < 3 := by omega
      go_wp2_with fail
      refine HC.out.mono ?_
      rintro e w1 ⟨r, rfl, hr, hb1⟩
      have hrel1 := HR.out.below hb1
      have HR1 := hid hrel1
      have HV := hid hr
      have c1 := hrel1.b0.lt
      have c2 := hrel1.b0.frozen k
      have c3 := hrel1.b0.cell k
      have c4 : w1.cell? ⟨w.heap.size, k, none⟩ = some (.float .f32 (f k)) := by
        rw [c3]
        have hk4 : k = 0 ∨ k = 1 ∨ k = 2 := by omega
        rcases hk4 with rfl | rfl | rfl <;> simp
      clear c3 hrel1 hb1 hr HC HR
      go_wp2_with (go_at_call 117; refine (clean_any _ _).mono ?_; rintro e w' ⟨rfl, rfl⟩)
      go_roundw
      case rel => exact ⟨k + 1, by omega, by go_num, by rw [HV.out]; exact HR1.out.step hlt⟩
      case measure => simp [intOf]; omega
    · obtain rfl : k = 3 := by omega
      have b0 : Blk wr w.heap.size 30 (arrA g) := by simpa [arrA] using hrel.b0
      have e0 := b0.cell 0
      have e1 := b0.cell 1
      have e2 := b0.cell 2
      have hz0 := hrel.b1.cell 0
      have hz1 := hrel.b1.cell 1
      have hz2 := hrel.b1.cell 2
      have f0 := hrel.b1.frozen 0
      have f1 := hrel.b1.frozen 1
      have f2 := hrel.b1.frozen 2
      simp at e0 e1 e2 hz0 hz1 hz2
      clear hrel b0
      go_wp2_with fail
      have hblk := HR.out.b1.set3 (.float .f32 (g 0)) (.float .f32 (g 1)) (.float .f32 (g 2))
      have hb2 := ((HR.out.be.setCell (p := ⟨w.heap.size + 1, 0, none⟩) (by simp) (.float .f32 (g 0))).setCell (p := ⟨w.heap.size + 1, 1, none⟩) (by simp) (.float .f32 (g 1))).setCell (p := ⟨w.heap.size + 1, 2, none⟩) (by simp) (.float .f32 (g 2))
      exact bodyPost_ret (v := arr g) (results_cell_row rfl _ _ _ _ _ _ _ rfl hblk Try.underlying30 rfl (by kernel_rfl)) rfl ⟨rfl, hb2⟩
end Go.Proofs.Ythnbfllhmjpbjaa
