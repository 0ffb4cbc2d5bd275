/-
  Clean of the reference, and SameFrame.
-/
import Derived.Test.YtejcmlpbmoikfaaDoorFPix
import Derived.BigQuiet
namespace Go.Proofs.YtejcmlpbmoikfaaDoor
open Go.RowKit Go.Shelf

theorem Framed.congr {w w' : World} {X Y : Int} {p q m : Nat} {F G : Nat → Nat} {e : Ending} (h : Framed w X Y p q m F e w') (hfg : ∀ t, t < m → F t = G t) : Framed w X Y p q m G e w' := by
  obtain ⟨b, c, he, h1, h2, h3, h4, h5, h6⟩ := h
  exact ⟨b, c, he, h1, h2, h3, h4, fun i hi => by rw [h5 i hi, hfg i hi], h6⟩
theorem gI_flat (H : Nat → Nat) {p : Nat} (t : Nat) : gI (fun i j k => H (4 * (p * j + i) + k)) p t = H t := by
  show H (4 * (p * (t / 4 / p) + t / 4 % p) + t % 4) = H t
  rw [Nat.div_add_mod, Nat.div_add_mod]

theorem enters_each1 (args : Array Value) (w : World) : (callFunc 47 args).run Tryd.prog w = .ok (.enter 47 args) w := enters_of Tryd.func47 (by kernel_rfl) rfl args w

set_option maxRecDepth 100000 in
set_option maxHeartbeats 2000000 in
theorem eachr_any (X Y : Int) (p q n c : Nat) (A : Option Addr) (F : Nat → Nat) (w : World) (hn : n = 4 * (p * q)) (hnc : n ≤ c) (hcm : c ≤ maxLen) (hn2 : n ≤ 65536) (hp : 0 < p) (hq : 0 < q)
    (hp2 : p ≤ 256) (hq2 : q ≤ 256) (x1 : -1048576 ≤ X) (x2 : X ≤ 1048576) (y1 : -1048576 ≤ Y) (y2 : Y ≤ 1048576) (hF : Src w A n F) :
    Calls Tryd.prog 33 #[frm X Y p q A n c, .func (.func 34) #[] #[]] w (Framed w X Y p q n fun t => cl (F t)) := by
  have hmf : ∀ (fn : Fn) (first cap : Array Value) (w : World), (Instr.makeFunc fn first cap).run Tryd.prog w = .ok (.func fn first cap) w := fun _ _ _ _ => rfl
  obtain ⟨w3, hw3⟩ : ∃ w3, w3 = (((w.alloc (.cells #[.int .i64 X, .int .i64 Y, .int .i64 p, .int .i64 q, .slice A n c] 26)).alloc (.cells #[.func (.func 34) #[] #[]] 68)).alloc (.cells zfrm 26)) := ⟨_, rfl⟩
  have hbx : Blk w3 w.heap.size 26 #[.int .i64 X, .int .i64 Y, .int .i64 p, .int .i64 q, .slice A n c] := by rw [hw3]; exact ((Blk.new_at _ _ _ rfl).alloc _).alloc _
  have hbf : Blk w3 (w.heap.size + 1) 68 #[.func (.func 34) #[] #[]] := by rw [hw3]; exact (Blk.new_at _ _ _ (by simp)).alloc _
  have hbr : Blk w3 (w.heap.size + 1 + 1) 26 zfrm := by rw [hw3]; exact Blk.new_at _ _ _ (by simp)
  have hbel : Below w.heap.size w w3 := by rw [hw3]; exact (((Below.refl _ _).alloc (Nat.le_refl _) _).alloc (by simp) _).alloc (by simp; omega) _
  have hmade := made_any 47 #[.pointer (some ⟨w.heap.size + 1, 0, none⟩), .pointer (some ⟨w.heap.size, 0, none⟩)] enters_each1 X Y p q n (fun i j k => cl (F (4 * (p * j + i) + k))) w3 hn hn2 hp hq hp2 hq2 x1 x2 y1 y2
    (fun i j w1 hi hj hb => eachClean_any X Y p q n c i j (w.heap.size + 1) w.heap.size A F w1 hi hj hn hnc hcm hn2 hp2 hq2 x1 x2 y1 y2 ((hF.below hbel).below hb) (hbf.below hb hbf.lt) (hbx.below hb hbx.lt))
  have HMD := hid hmade
  have HBR := hid hbr
  have HBE := hid hbel
  have HW3 := hid hw3
  clear hbx hbf hbr hbel hmade hF hn hw3
  go_enter Tryd.func33, Tryd.ntmps33
  go_wp2_with fail
  rw [← HW3.out]
  refine HMD.out.mono ?_
  rintro e w4 ⟨b, c', rfl, q1, q2, q3, q4, q5, q6⟩
  have hb4 := HBR.out.below q6 HBR.out.lt
  have z0 := hb4.cell 0
  have z1 := hb4.cell 1
  have z2 := hb4.cell 2
  have z3 := hb4.cell 3
  have z4 := hb4.cell 4
  have fz := fun i => hb4.frozen i
  simp at z0 z1 z2 z3 z4
  have hblk := hb4.set5 (.int .i64 X) (.int .i64 Y) (.int .i64 p) (.int .i64 q) (.slice (some ⟨b, 0, none⟩) n c')
  have HBK := hid hblk
  have hs3 := HBE.out.size
  have hs4 := HBR.out.lt
  have HQ := hid (And.intro q5 (below_to HBE.out q6))
  clear hb4 hblk q5 q6
  go_wp2
  refine bodyPost_ret (v := frm X Y p q (some ⟨b, 0, none⟩) n c') (results_cell_row rfl _ _ _ _ _ _ _ rfl HBK.out Tryd.underlying26 rfl (by kernel_rfl)) rfl ?_
  refine Framed.congr (F := gI (fun i j k => cl (F (4 * (p * j + i) + k))) p) ?_ (fun t _ => gI_flat (fun x => cl (F x)) t)
  exact ⟨b, c', rfl, q1, q2, by omega, by rw [size_set5]; exact q4, HQ.out.1.far5 (by omega) _ _ _ _ _, below_set5 HQ.out.2 (by omega) _ _ _ _ _⟩

set_option maxRecDepth 100000 in
set_option maxHeartbeats 2000000 in
theorem cleanr_any (X Y : Int) (p q n c : Nat) (A : Option Addr) (F : Nat → Nat) (w : World) (hn : n = 4 * (p * q)) (hnc : n ≤ c) (hcm : c ≤ maxLen) (hn2 : n ≤ 65536) (hp : 0 < p) (hq : 0 < q)
    (hp2 : p ≤ 256) (hq2 : q ≤ 256) (x1 : -1048576 ≤ X) (x2 : X ≤ 1048576) (y1 : -1048576 ≤ Y) (y2 : Y ≤ 1048576) (hF : Src w A n F) :
    Calls Tryd.prog 14 #[frm X Y p q A n c] w (Framed w X Y p q n fun t => cl (F t)) := by
  have HE : RowKit.Hid (∀ w1, Below w.heap.size w w1 → Calls Tryd.prog 33 #[frm X Y p q A n c, .func (.func 34) #[] #[]] w1 (Framed w1 X Y p q n fun t => cl (F t))) :=
    hid fun w1 h => eachr_any X Y p q n c A F w1 hn hnc hcm hn2 hp hq hp2 hq2 x1 x2 y1 y2 (hF.below h)
  clear hF hn
  have hb2 : Below w.heap.size w ((w.alloc (.cells #[.int .i64 X, .int .i64 Y, .int .i64 p, .int .i64 q, .slice A n c] 26)).alloc (.cells zfrm 26)) := ((Below.refl _ _).alloc (Nat.le_refl _) _).alloc (by simp) _
  have hr2 : Blk ((w.alloc (.cells #[.int .i64 X, .int .i64 Y, .int .i64 p, .int .i64 q, .slice A n c] 26)).alloc (.cells zfrm 26)) (w.heap.size + 1) 26 zfrm := Blk.new_at _ _ _ (by simp)
  have HB2 := hid hb2
  have HR2 := hid hr2
  clear hb2 hr2
  go_enter Tryd.func14, Tryd.ntmps14
  go_wp2_with fail
  refine (HE.out _ HB2.out).mono ?_
  rintro e w4 ⟨b, c', rfl, q1, q2, q3, q4, q5, q6⟩
  have hb4 := HR2.out.below q6 HR2.out.lt
  have z0 := hb4.cell 0
  have z1 := hb4.cell 1
  have z2 := hb4.cell 2
  have z3 := hb4.cell 3
  have z4 := hb4.cell 4
  have fz := fun i => hb4.frozen i
  simp at z0 z1 z2 z3 z4
  have hblk := hb4.set5 (.int .i64 X) (.int .i64 Y) (.int .i64 p) (.int .i64 q) (.slice (some ⟨b, 0, none⟩) n c')
  have HBK := hid hblk
  have HQ := hid (And.intro q5 (below_to HB2.out q6))
  have hs4 : w.heap.size + 1 + 1 ≤ b := by simpa using q3
  clear hb4 hblk q5 q6 q3
  go_wp2
  refine bodyPost_ret (v := frm X Y p q (some ⟨b, 0, none⟩) n c') (results_cell_row rfl _ _ _ _ _ _ _ rfl HBK.out Tryd.underlying26 rfl (by kernel_rfl)) rfl ?_
  exact ⟨b, c', rfl, q1, q2, by omega, by rw [size_set5]; exact q4, HQ.out.1.far5 (by omega) _ _ _ _ _, below_set5 HQ.out.2 (by omega) _ _ _ _ _⟩

set_option maxRecDepth 100000 in
set_option maxHeartbeats 2000000 in
theorem sameFrame_any (X Y p q : Int) (n c c2 : Nat) (A B : Option Addr) (F G : Nat → Nat) (w : World) (hn : n ≤ 65536) (hF : Src w A n F) (hG : Src w B n G) (hFG : ∀ i, i < n → F i = G i) :
    Calls Tryd.prog 13 #[frm X Y p q A n c, frm X Y p q B n c2] w fun e w' => e = .returned (.bool true) ∧ Below w.heap.size w w' := by
  have HF := hid hF
  have HG := hid hG
  have HFG := hid hFG
  clear hF hG hFG
  go_enter Tryd.func13, Tryd.ntmps13
  go_wp2
  go_loopw [23] (fun i wr => ∃ k : Nat, k ≤ n ∧ i = .int .i64 k ∧ Blk wr w.heap.size 26 #[.int .i64 X, .int .i64 Y, .int .i64 p, .int .i64 q, .slice A n c] ∧ Blk wr (w.heap.size + 1) 26 #[.int .i64 X, .int .i64 Y, .int .i64 p, .int .i64 q, .slice B n c2] ∧ Below w.heap.size w wr) (fun i _ => n - (intOf i).toNat)
  case atStart => exact ⟨0, Nat.zero_le _, rfl, (Blk.new_at _ _ _ rfl).alloc _, Blk.new_at _ _ _ (by simp), ((Below.refl _ _).alloc (Nat.le_refl _) _).alloc (by simp) _⟩
  case round =>
    obtain ⟨k, hk, rfl, h0, h1, h2⟩ := hrel
    have c4 := h0.cell 4
    have d4 := h1.cell 4
    simp at c4 d4
    have H0 := hid h0
    have H1 := hid h1
    have H2 := hid h2
    clear h0 h1 h2
    by_cases hlt : k < n
    · obtain ⟨ba, oa, rfl, hba, hRa⟩ := HF.out (by omega)
      obtain ⟨bb, ob, rfl, hbb, hRb⟩ := HG.out (by omega)
      have s1 : wr.cell? ⟨ba, oa + k, none⟩ = some (.float .f32 (F k)) := (H2.out.cell (p := ⟨ba, oa + k, none⟩) hba).trans (hRa k hlt)
      have s2 : wr.cell? ⟨bb, ob + k, none⟩ = some (.float .f32 (F k)) := by rw [HFG.out k hlt]; exact (H2.out.cell (p := ⟨bb, ob + k, none⟩) hbb).trans (hRb k hlt)
      have k1 : (0 : Int) ≤ (k : Int) := by omega
      have k2 : (k : Int) < (n : Int) := by omega
      clear hRa hRb
      go_wp2
      go_quiet (fail)
      go_wp2
      go_roundw
      case rel => exact ⟨k + 1, by omega, by go_num, H0.out.drewN _, H1.out.drewN _, below_drewN H2.out _⟩
      case measure => simp [intOf]; omega
    · go_wp2
      go_ret
      exact ⟨rfl, H2.out⟩
end Go.Proofs.YtejcmlpbmoikfaaDoor
