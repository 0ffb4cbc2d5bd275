/-
  A frame beside itself: the greatest difference, and steps.
-/
import Derived.Test.YtcklpmjeimjgmaaWSelf
namespace Go.Proofs.Ytcklpmjeimjgmaa
open Go.RowKit Go.Shelf
attribute [local go_sem] run_store_float

theorem results_tmp_row_tmp {P : Program} {fn : Func} {p u v : Tmp} {ty : TypeId} (h : fn.results = #[.tmp u, .cell p ty, .tmp v]) (tmps : Array Value) (w : World) (g : Nat) (t : TypeId) (cs : Array Value) (d : TypeDesc)
    (hp : tmps.getD p undef = .pointer (some ⟨g, 0, none⟩)) {v2 v3 : Value} (hv : tmps.getD u undef = v2) (hv3 : tmps.getD v undef = v3) (hg : Blk w g t cs)
    (hu : P.underlying ty = some d) (hd : (match d with | .struct _ | .array _ _ => true | _ => false) = true) (hi : (P.info? ty).map (·.size) = some cs.size) :
    (results fn tmps).run P w = .ok (.tuple #[v2, .agg cs, v3]) w := by
  subst hv hv3
  have e : (results fn tmps).run P w = ((asAddr (tmps.getD p undef)).run P w).andThen fun a w₁ => ((loadVar ty a).run P w₁).andThen fun v1 w₂ => .ok (.tuple #[tmps.getD u undef, v1, tmps.getD v undef]) w₂ := by
    simp only [results, h]
    simp [Sem.run_bind, Result.andThen]
  rw [e, hp]
  simp [asAddr, run_loadVar_row (P := P) w g t ty cs (0, 0) d hg hu hd hi]

/-- The boxes of Peak. -/
structure KB3 (X Y : Int) (p q n c d gb : Nat) (A B : Option Addr) (w wr : World) : Prop where
  s : SB X Y p q n c d A B w wr
  z : Blk wr (w.heap.size + 2) 80 #[.int .i64 0, .int .i64 0]
  r : Rd wr gb 0 n (fun _ => 0)
  lr : gb < wr.heap.size
  lb : w.heap.size + 2 < gb
theorem KB3.below {X Y : Int} {p q n c d gb : Nat} {A B : Option Addr} {w wr w1 : World} (h : KB3 X Y p q n c d gb A B w wr) (hb : Below wr.heap.size wr w1) : KB3 X Y p q n c d gb A B w w1 :=
  ⟨h.s.below hb, h.z.below hb h.z.lt, h.r.below hb h.lr, Nat.lt_of_lt_of_le h.lr hb.size, h.lb⟩

set_option maxRecDepth 100000 in
set_option maxHeartbeats 2000000 in
theorem peak_self (X Y : Int) (p q n c : Nat) (A : Option Addr) (F : Nat → Nat) (w : World) (h : frmE X Y p q n = 0) (hn0 : 0 < n) (hn2 : n ≤ 256) (hp : 0 < p) (hp2 : p ≤ 256) (x1 : -1048576 ≤ X) (x2 : X ≤ 1048576) (y1 : -1048576 ≤ Y) (y2 : Y ≤ 1048576) (hF : Src w A n F) :
    Calls Try.prog 45 #[frm X Y p q A n c, frm X Y p q A n c] w fun e w' => ∃ u v : Int, e = .returned (.tuple #[.float .f32 0, pnt u v, .int .i64 0]) ∧ Below w.heap.size w w' := by
  have hb3 := (SB.new X Y p q n c c A A w).below ((Below.refl _ _).alloc (Nat.le_refl _) (.cells #[.int .i64 0, .int .i64 0] 80))
  have HB := hid hb3
  have HZ : RowKit.Hid (Blk (((w.alloc (.cells #[.int .i64 X, .int .i64 Y, .int .i64 p, .int .i64 q, .slice A n c] 26)).alloc (.cells #[.int .i64 X, .int .i64 Y, .int .i64 p, .int .i64 q, .slice A n c] 26)).alloc (.cells #[.int .i64 0, .int .i64 0] 80)) (w.heap.size + 2) 80 #[.int .i64 0, .int .i64 0]) := hid (Blk.new_at _ _ _ (by simp))
  have HD : RowKit.Hid (∀ wz, Below w.heap.size w wz → Calls Try.prog 119 #[frm X Y p q A n c, frm X Y p q A n c] wz fun e w' => ∃ gb, e = .returned (.tuple #[.slice (some ⟨gb, 0, none⟩) n n, .int .i64 0]) ∧ wz.heap.size ≤ gb ∧ gb < w'.heap.size ∧ Rd w' gb 0 n (fun _ => 0) ∧ Below wz.heap.size wz w') :=
    hid fun wz hz => differences_self X Y p q n c A F wz h hn0 hn2 (hF.below hz)
  clear h hF hb3
  go_enter Try.func45, Try.ntmps45
  go_wp2_with fail
  refine (HD.out _ HB.out.be).mono ?_
  rintro e w1 ⟨gb, rfl, g1, g2, g3, hb⟩
  have HK : RowKit.Hid (KB3 X Y p q n c c gb A A w w1) := hid ⟨HB.out.below hb, HZ.out.below hb HZ.out.lt, g3, g2, by simp at g1; omega⟩
  clear g1 g2 g3 hb HD HB HZ
  go_wp2_with fail
  go_loopw [9, 24] (fun v i wr => ∃ t : Nat, t ≤ n ∧ v = .int .i64 0 ∧ i = .int .i64 t ∧ KB3 X Y p q n c c gb A A w wr) (fun _ i _ => n - (intOf i).toNat)
  case atStart => exact ⟨0, Nat.zero_le _, rfl, rfl, HK.out⟩
  case round =>
    clear HK
    obtain ⟨t, ht, rfl, rfl, hs⟩ := hrel
    have HS := hid hs
    have c0 := hs.r 0 hn0
    simp at c0
    by_cases hlt : t < n
    · have ct := hs.r t hlt
      simp at ct
      clear hs
      go_wp2_with (go_at_call 108; refine (inOrder_zero _).mono ?_; rintro e w' ⟨rfl, rfl⟩)
      go_roundw
      case rel => exact ⟨t + 1, by omega, rfl, by go_num, HS.out⟩
      case measure => simp [intOf]; omega
    · obtain rfl : t = n := by omega
      have a0 := hs.s.a.cell 0
      have a1 := hs.s.a.cell 1
      have a2 := hs.s.a.cell 2
      have a3 := hs.s.a.cell 3
      simp at a0 a1 a2 a3
      have HPT := hid fun wz => pointOf_any X Y p q 0 wz hp hp2 (by omega) x1 x2 y1 y2
      clear hs
      go_wp2_with fail
      go_region_with (go_at_call 120; refine (HPT.out _).mono ?_; rintro e w2 ⟨rfl, hb⟩; have HS2 := hid (HS.out.below (by first | exact (below_drewN (Below.refl _ _) 1).trans hb | exact (below_drewN (Below.refl _ _) _).trans hb | exact hb)); have c0 := HS2.out.r 0 hn0; have z0 := HS2.out.z.cell 0; have z1 := HS2.out.z.cell 1; have zf := fun i => HS2.out.z.frozen i; simp at c0 z0 z1; clear hb)
      all_goals
        go_wp2_with fail
        have HZ2 := HS2.out.z.set2 (.int .i64 X) (.int .i64 Y)
        have HE2 := HS2.out.s.be
        refine bodyPost_ret (v := .tuple #[.float .f32 0, pnt X Y, .int .i64 0]) (results_tmp_row_tmp rfl _ _ _ _ _ _ rfl rfl rfl HZ2 Try.underlying80 rfl (by kernel_rfl)) rfl ⟨X, Y, rfl, ?_⟩
        exact (HE2.setCell (by simp; omega) _).setCell (by simp; omega) _

/-- A row of steps: all at 0. -/
def stp (k : Nat) (j : Nat) : Value := .int .i64 (if j = 0 then k else 0)
theorem info_int : (Try.prog.info? 3).map (fun i => (i.zero, i.size, i.bytes)) = some (some (.int .i64 0), 1, 8) := by kernel_rfl

set_option maxRecDepth 100000 in
set_option maxHeartbeats 2000000 in
theorem steps_self (X Y : Int) (p q n c : Nat) (A : Option Addr) (F : Nat → Nat) (w : World) (h : frmE X Y p q n = 0) (hn0 : 0 < n) (hn2 : n ≤ 256) (hF : Src w A n F) :
    Calls Try.prog 48 #[frm X Y p q A n c, frm X Y p q A n c] w fun e w' => ∃ gb, e = .returned (.tuple #[.slice (some ⟨gb, 0, none⟩) 34 34, .int .i64 0]) ∧ w'.rowIs gb 3 34 (stp n) ∧ w.heap.size ≤ gb ∧ Below w.heap.size w w' := by
  have HH := hid h
  have HF := hid hF
  have hmk : ∀ w : World, (Instr.makeSlice 32 (.int .i64 34) (.int .i64 34)).run Try.prog w = .ok (.slice (some ⟨w.heap.size, 0, none⟩) 34 34) (w.alloc (.cells (madeCells #[.int .i64 0] 34) 3)) := run_make_row' (P := Try.prog) 32 3 (.int .i64 0) 8 Try.underlying32 info_int rfl .i64 .i64 34 (by omega) (by omega)
  clear h hF
  go_enter Try.func48, Try.ntmps48
  go_wp2_with fail
  refine (checkBoth_ok _ _ _ _ _ _ _ _ _ _ HH.out).mono ?_
  rintro e w1 ⟨rfl, hb⟩
  have H1 := hid ((SB.new X Y p q n c c A A w).below hb)
  have a4 := H1.out.a.cell 4
  simp at a4
  have l1 := H1.out.a.lt
  have l2 := H1.out.b.lt
  clear hb
  go_wp2_with fail
  have H2 : RowKit.Hid (SB X Y p q n c c A A w (w1.alloc (.cells (madeCells #[.int .i64 0] 34) 3))) := hid (H1.out.below ((Below.refl _ _).alloc (Nat.le_refl _) _))
  have HR : RowKit.Hid ((w1.alloc (.cells (madeCells #[.int .i64 0] 34) 3)).rowIs w1.heap.size 3 34 (stp 0)) := hid (World.rowIs.congr (rowIs_made_at _ _ _ _ rfl) (fun i _ => by unfold stp; simp))
  have HLT : RowKit.Hid (w.heap.size + 1 < w1.heap.size) := hid H1.out.b.lt
  clear hmk a4 H1
  go_loopw [20] (fun i wr => ∃ t : Nat, t ≤ n ∧ i = .int .i64 t ∧ SB X Y p q n c c A A w wr ∧ wr.rowIs w1.heap.size 3 34 (stp t)) (fun i _ => n - (intOf i).toNat)
  case atStart => exact ⟨0, Nat.zero_le _, rfl, H2.out, HR.out⟩
  case round =>
    clear H2 HR
    obtain ⟨t, ht, rfl, hs, hr⟩ := hrel
    have HS := hid hs
    have HR := hid hr
    have b4 := hs.b.cell 4
    simp at b4
    by_cases hlt : t < n
    · obtain ⟨ba, oa, rfl, hba, hRa⟩ := HF.out hn0
      have hsrc : wr.cell? ⟨ba, oa + t, none⟩ = some (.float .f32 (F t)) := (hs.be.cell (p := ⟨ba, oa + t, none⟩) hba).trans (hRa t hlt)
      have hcl : wr.cell? ⟨w1.heap.size, 0, none⟩ = some (.int .i64 (t : Int)) := by
        have := hr.cell (i := 0) (by omega)
        simpa [stp] using this
      have hfr := hr.frozen 0
      clear hs hr hRa
      go_wp2_with (go_at_call 125; refine (stepOf_self _ _).mono ?_; rintro e w' ⟨rfl, rfl⟩)
      go_roundw
      case rel =>
        refine ⟨t + 1, by omega, by go_num, ?_, ?_⟩
        · have hl := HLT.out
          exact ⟨HS.out.a.far (by simp; omega) _, HS.out.b.far (by simp; omega) _, HS.out.be.setCell (by simp; omega) _⟩
        · exact World.rowIs.congr (HR.out.set 0 _) (fun i _ => by by_cases h : i = 0 <;> simp [h, stp])
      case measure => simp [intOf]; omega
    · obtain rfl : t = n := by omega
      clear hs hr
      go_wp2_with fail
      go_ret2
      exact ⟨w1.heap.size, rfl, HR.out, by have := HLT.out; omega, HS.out.be⟩
end Go.Proofs.Ytcklpmjeimjgmaa
