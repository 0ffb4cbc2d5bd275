/-
  Colours: a space by its name, in the program.
-/
import Derived.Test.YtcmakibomdinbaaCSp
import Derived.Laws.Tables
import Derived.Laws.CopyOwn
import Derived.Deep.DeepCutAuto
namespace Go.Proofs.Ytcmakibomdinbaa
open Go.RowKit
attribute [local go_sem] run_store_float

theorem results_row_tmp {P : Program} {fn : Func} {p u : Tmp} {ty : TypeId} (h : fn.results = #[.cell p ty, .tmp u]) (tmps : Array Value) (w : World) (g : Nat) (t : TypeId) (cs : Array Value) (d : TypeDesc)
    (hp : tmps.getD p undef = .pointer (some ⟨g, 0, none⟩)) {v2 : Value} (hv : tmps.getD u undef = v2) (hg : Blk w g t cs)
    (hu : P.underlying ty = some d) (hd : (match d with | .struct _ | .array _ _ => true | _ => false) = true) (hi : (P.info? ty).map (·.size) = some cs.size) :
    (results fn tmps).run P w = .ok (.tuple #[.agg cs, v2]) w := by
  subst hv
  rw [results_cell_tmp h, hp]
  simp [asAddr, run_loadVar_row (P := P) w g t ty cs (0, 0) d hg hu hd hi]

def zsp : Array Value := #[Value.string { data := #[] }, .float .f32 0, .float .f32 0, .float .f32 0, .float .f32 0, .float .f32 0, .float .f32 0, .float .f32 0, .float .f32 0, .int .i64 0, .float .f32 0, .float .f32 0, .float .f32 0]
/-- The relation of the loop of Known. -/
structure NRel (w wr : World) : Prop where
  sp : Blk wr (w.heap.size + 1 + 5) 35 spAll
  z : Blk wr w.heap.size 35 zsp
  be : Below w.heap.size w wr
theorem NRel.alloc {w wr : World} (h : NRel w wr) (o : Obj) : NRel w (wr.alloc o) := ⟨h.sp.alloc o, h.z.alloc o, h.be.alloc h.be.size o⟩
theorem nrel_start {w w1 : World} (hs : Blk w1 (w.heap.size + 1 + 5) 35 spAll) (hb : Below (w.heap.size + 1) (w.alloc (.cells zsp 35)) w1) : NRel w w1 :=
  ⟨hs, (Blk.new_at w 35 zsp rfl).below hb (by simp), ((Below.refl _ _).alloc (Nat.le_refl _) _).trans (hb.mono (by simp))⟩

set_option maxRecDepth 100000 in
set_option maxHeartbeats 4000000 in
theorem known_video (w : World) : Calls Try.prog 14 #[Value.string { data := #[118, 105, 100, 101, 111] }] w fun e w' => e = .returned (.tuple #[.agg sp1, .int .i64 0]) ∧ Below w.heap.size w w' := by
  go_enter Try.func14, Try.ntmps14
  go_wp2_with fail
  refine (spaces_any _).mono ?_
  rintro e w1 ⟨rfl, hs, hb1⟩
  have hz := nrel_start (w := w) (w1 := w1) (by simpa using hs) (by simpa [zsp] using hb1)
  have HZ := hid hz
  clear hs hb1 hz
  go_wp2_with fail
  go_loopw [8] (fun i wr => ∃ k : Nat, k ≤ 1 ∧ i = .int .i64 k ∧ NRel w wr) (fun i _ => 6 - (intOf i).toNat)
  case atStart => exact ⟨0, by omega, rfl, by simpa using HZ.out⟩
  case round =>
    obtain ⟨k, hk, rfl, hrel⟩ := hrel
    clear HZ
    have HR := hid hrel
    have hlt := hrel.sp.lt
    have hlt2 := hrel.z.lt
    have hk2 : k = 0 ∨ k = 1 := by omega
    rcases hk2 with rfl | rfl
    · have c0 : wr.cell? ⟨w.heap.size + 1 + 5, 0, none⟩ = some (Value.string { data := #[108, 105, 110, 101, 97, 114] }) := hrel.sp.cell 0
      have c1 : wr.cell? ⟨w.heap.size + 1 + 5, 1, none⟩ = some (.float .f32 1059313418) := hrel.sp.cell 1
      have c2 : wr.cell? ⟨w.heap.size + 1 + 5, 2, none⟩ = some (.float .f32 1051260355) := hrel.sp.cell 2
      have c3 : wr.cell? ⟨w.heap.size + 1 + 5, 3, none⟩ = some (.float .f32 1050253722) := hrel.sp.cell 3
      have c4 : wr.cell? ⟨w.heap.size + 1 + 5, 4, none⟩ = some (.float .f32 1058642330) := hrel.sp.cell 4
      have c5 : wr.cell? ⟨w.heap.size + 1 + 5, 5, none⟩ = some (.float .f32 1041865114) := hrel.sp.cell 5
      have c6 : wr.cell? ⟨w.heap.size + 1 + 5, 6, none⟩ = some (.float .f32 1031127695) := hrel.sp.cell 6
      have c7 : wr.cell? ⟨w.heap.size + 1 + 5, 7, none⟩ = some (.float .f32 1050679863) := hrel.sp.cell 7
      have c8 : wr.cell? ⟨w.heap.size + 1 + 5, 8, none⟩ = some (.float .f32 1051226800) := hrel.sp.cell 8
      have c9 : wr.cell? ⟨w.heap.size + 1 + 5, 9, none⟩ = some (.int .i64 1) := hrel.sp.cell 9
      have c10 : wr.cell? ⟨w.heap.size + 1 + 5, 10, none⟩ = some (.float .f32 0) := hrel.sp.cell 10
      have c11 : wr.cell? ⟨w.heap.size + 1 + 5, 11, none⟩ = some (.float .f32 0) := hrel.sp.cell 11
      have c12 : wr.cell? ⟨w.heap.size + 1 + 5, 12, none⟩ = some (.float .f32 0) := hrel.sp.cell 12
      clear hrel
      go_wp2_with fail
      go_roundw
      case rel => exact ⟨1, by omega, rfl, HR.out.alloc _⟩
      case measure => simp [intOf]
    · have c0 : wr.cell? ⟨w.heap.size + 1 + 5, 13, none⟩ = some (Value.string { data := #[118, 105, 100, 101, 111] }) := hrel.sp.cell 13
      have c1 : wr.cell? ⟨w.heap.size + 1 + 5, 14, none⟩ = some (.float .f32 1059313418) := hrel.sp.cell 14
      have c2 : wr.cell? ⟨w.heap.size + 1 + 5, 15, none⟩ = some (.float .f32 1051260355) := hrel.sp.cell 15
      have c3 : wr.cell? ⟨w.heap.size + 1 + 5, 16, none⟩ = some (.float .f32 1050253722) := hrel.sp.cell 16
      have c4 : wr.cell? ⟨w.heap.size + 1 + 5, 17, none⟩ = some (.float .f32 1058642330) := hrel.sp.cell 17
      have c5 : wr.cell? ⟨w.heap.size + 1 + 5, 18, none⟩ = some (.float .f32 1041865114) := hrel.sp.cell 18
      have c6 : wr.cell? ⟨w.heap.size + 1 + 5, 19, none⟩ = some (.float .f32 1031127695) := hrel.sp.cell 19
      have c7 : wr.cell? ⟨w.heap.size + 1 + 5, 20, none⟩ = some (.float .f32 1050679863) := hrel.sp.cell 20
      have c8 : wr.cell? ⟨w.heap.size + 1 + 5, 21, none⟩ = some (.float .f32 1051226800) := hrel.sp.cell 21
      have c9 : wr.cell? ⟨w.heap.size + 1 + 5, 22, none⟩ = some (.int .i64 3) := hrel.sp.cell 22
      have c10 : wr.cell? ⟨w.heap.size + 1 + 5, 23, none⟩ = some (.float .f32 1075419546) := hrel.sp.cell 23
      have c11 : wr.cell? ⟨w.heap.size + 1 + 5, 24, none⟩ = some (.float .f32 1029785518) := hrel.sp.cell 24
      have c12 : wr.cell? ⟨w.heap.size + 1 + 5, 25, none⟩ = some (.float .f32 1095678034) := hrel.sp.cell 25
      clear hrel
      have HZB := hid HR.out.z
      go_upto_region 5 with fail
      go_wp2_with (refine wpList_store_row rfl 35 (.tmp 2) (.tmp 16) rfl w.heap.size sp1 rfl rfl 35 zsp (HZB.out.alloc _) (by kernel_rfl) rfl (by kernel_rfl) ?_)
      exact bodyPost_ret (v := .tuple #[.agg sp1, .int .i64 0]) (results_row_tmp rfl _ _ _ _ _ _ rfl rfl (setRow_heap _ _ _ _ _ _ (HR.out.z.alloc _)) Try.underlying35 rfl (by kernel_rfl)) rfl ⟨rfl, below_setRow (HR.out.be.alloc HR.out.be.size _) (Nat.le_refl _) _⟩

set_option maxRecDepth 100000 in
set_option maxHeartbeats 1000000 in
theorem colours_any (w : World) : Calls Try.prog 23 #[] w fun e w' => e = .returned (.bool true) ∧ Below w.heap.size w w' := by
  have h1 : (FloatKind.f32.format.order 1075419546 1075419546 == some .eq) = true := by decide +kernel
  go_enter Try.func23, Try.ntmps23
  go_wp2_with fail
  refine (known_video _).mono ?_
  rintro e w1 ⟨rfl, hb1⟩
  have HB := hid hb1
  unfold sp1
  clear hb1
  go_wp2_with fail
  go_ret
  exact ⟨rfl, HB.out.alloc HB.out.size _⟩
end Go.Proofs.Ytcmakibomdinbaa
