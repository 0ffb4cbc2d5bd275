/-
  each: the frame of what a function value makes of each single.
-/
import Derived.Test.YtejcmlpbmoikfaaDoorFSame
import Derived.Deep.RegionHeld3
namespace Go.Proofs.YtejcmlpbmoikfaaDoor
open Go.RowKit Go.Shelf
attribute [local go_sem] run_store_float

/-- The relation of the loop of each. -/
structure ERel (w : World) (X Y : Int) (p q n c : Nat) (A : Option Addr) (S R : Nat) (H : Nat → Nat) (wr : World) : Prop where
  row : wr.rowIs S 30 n (fun j => .float .f32 (H j))
  b0 : Blk wr w.heap.size 26 #[.int .i64 X, .int .i64 Y, .int .i64 p, .int .i64 q, .slice A n c]
  b1 : Blk wr (w.heap.size + 1) 26 zfrm
  r : Blk wr R 26 #[.int .i64 X, .int .i64 Y, .int .i64 p, .int .i64 q, .slice (some ⟨S, 0, none⟩) n n]
  be : Below w.heap.size w wr
  hS : w.heap.size + 1 < S
  hR : w.heap.size + 1 < R
  ne : S ≠ R
section
variable {w wr w1 : World} {X Y : Int} {p q n c : Nat} {A : Option Addr} {S R : Nat} {H : Nat → Nat}
theorem ERel.below (h : ERel w X Y p q n c A S R H wr) (hb : Below wr.heap.size wr w1) : ERel w X Y p q n c A S R H w1 :=
  ⟨rowIs_below h.row hb h.row.lt, h.b0.below hb h.b0.lt, h.b1.below hb h.b1.lt, h.r.below hb h.r.lt, below_to h.be hb, h.hS, h.hR, h.ne⟩
theorem ERel.step {k : Nat} {G : Nat → Nat} (h : ERel w X Y p q n c A S R (fun j => if j < k then G j else 0) wr) : ERel w X Y p q n c A S R (fun j => if j < k + 1 then G j else 0) (wr.setCell ⟨S, k, none⟩ (.float .f32 (G k))) := by
  have h1 := h.hS
  have h2 := h.ne
  refine ⟨World.rowIs.congr (h.row.set k _) (fun i _ => ?_), h.b0.far (by simp; omega) _, h.b1.far (by simp; omega) _, h.r.far (by simpa using fun e => h2 e.symm) _, h.be.setCell (by simp; omega) _, h.hS, h.hR, h.ne⟩
  by_cases hik : i = k
  · subst hik; simp
  · by_cases h : i < k
    · simp [hik, h, show i < k + 1 by omega]
    · simp [hik, h, show ¬ i < k + 1 by omega]
end

/-- A new frame whose block is a row that reads as G. -/
def FRow (w : World) (X Y : Int) (p q n : Nat) (G : Nat → Nat) (e : Ending) (w' : World) : Prop :=
  ∃ S, e = .returned (frm X Y p q (some ⟨S, 0, none⟩) n n) ∧ w.heap.size ≤ S ∧ w'.rowIs S 30 n (fun t => .float .f32 (G t)) ∧ Below w.heap.size w w'

set_option maxRecDepth 100000 in
set_option maxHeartbeats 2000000 in
theorem each_row (K : FuncId) (caps : Array Value) (eK : ∀ (args : Array Value) (w : World), (callFunc K args).run Tryd.prog w = .ok (.enter K args) w) (X Y : Int) (p q n c : Nat) (A : Option Addr) (F G : Nat → Nat) (w : World)
    (hn : n ≤ 65536) (hF : Src w A n F) (hG : ∀ (i : Nat) (w1 : World), i < n → Below w.heap.size w w1 → Calls Tryd.prog K (#[.int .i64 i, .float .f32 (F i)] ++ caps) w1 (Gave w1 (G i))) :
    Calls Tryd.prog 40 #[frm X Y p q A n c, .func (.func K) #[] caps] w (FRow w X Y p q n G) := by
  have HG := hid hG
  have HF := hid hF
  clear hG hF
  have hmk := run_make_row' (P := Tryd.prog) 24 30 (.float .f32 0) 4 Tryd.underlying24 info_f32 rfl .i64 .i64 n (by omega) (by omega)
  go_enter Tryd.func40, Tryd.ntmps40
  go_wp2_with fail
  obtain ⟨wb, hwb⟩ : ∃ wb, wb = (w.alloc (.cells #[.int .i64 X, .int .i64 Y, .int .i64 p, .int .i64 q, .slice A n c] 26)).alloc (.cells zfrm 26) := ⟨_, rfl⟩
  have b0 : Blk wb w.heap.size 26 #[.int .i64 X, .int .i64 Y, .int .i64 p, .int .i64 q, .slice A n c] := by rw [hwb]; exact (Blk.new_at _ _ _ rfl).alloc _
  have b1 : Blk wb (w.heap.size + 1) 26 zfrm := by rw [hwb]; exact Blk.new_at _ _ _ (by simp)
  have hbe : Below w.heap.size w wb := by rw [hwb]; exact ((Below.refl _ _).alloc (Nat.le_refl _) _).alloc (by simp) _
  rw [← hwb]
  have e0 := b0.cell 0
  have e1 := b0.cell 1
  have e2 := b0.cell 2
  have e3 := b0.cell 3
  have e4 := b0.cell 4
  simp at e0 e1 e2 e3 e4
  have HB0 := hid b0
  have HB1 := hid b1
  have HBE := hid hbe
  clear b0 b1 hbe hwb
  go_region_held3 (fun w' => w'.cell? ⟨w.heap.size, 0, none⟩ = some (.int .i64 X) ∧ w'.cell? ⟨w.heap.size, 1, none⟩ = some (.int .i64 Y) ∧ w'.cell? ⟨w.heap.size, 2, none⟩ = some (.int .i64 p) ∧ w'.cell? ⟨w.heap.size, 3, none⟩ = some (.int .i64 q) ∧ w'.cell? ⟨w.heap.size, 4, none⟩ = some (.slice A n c)) (go_keep) (fail)
  all_goals
    rename_i hH
    clear hH e0 e1 e2 e3 e4
    generalize hwz : World.drew _ = wz
    first
      | (have hz : ERel w X Y p q n c A wb.heap.size (wb.heap.size + 1) (fun j => if j < 0 then G j else 0) wz := by
           have s1 := HB1.out.lt
           subst hwz
           refine ⟨World.rowIs.drew ((rowIs_made_at _ _ _ _ rfl).alloc _), (HB0.out.alloc _).alloc _, (HB1.out.alloc _).alloc _, Blk.new_at _ _ _ (by simp), ((HBE.out.alloc HBE.out.size _).alloc (by have := HBE.out.size; simp; omega) _).drew, by omega, by omega, by omega⟩
         generalize wb.heap.size + 1 = R at *
         generalize wb.heap.size = S at *)
      | (have hz : ERel w X Y p q n c A (wb.heap.size + 1) wb.heap.size (fun j => if j < 0 then G j else 0) wz := by
           have s1 := HB1.out.lt
           subst hwz
           refine ⟨World.rowIs.drew (rowIs_made_at _ _ _ _ (by simp)), (HB0.out.alloc _).alloc _, (HB1.out.alloc _).alloc _, (Blk.new_at _ _ _ rfl).alloc _, ((HBE.out.alloc HBE.out.size _).alloc (by have := HBE.out.size; simp; omega) _).drew, by omega, by omega, by omega⟩
         generalize wb.heap.size + 1 = S at *
         generalize wb.heap.size = R at *)
    have HZ := hid hz
    have HN : RowKit.Hid (n ≤ 65536) := hid hn
    have r0 := hz.r.cell 0
    have r1 := hz.r.cell 1
    have r2 := hz.r.cell 2
    have r3 := hz.r.cell 3
    have f0 := hz.b0.cell 4
    have r4 := hz.b0.cell 4
    simp at f0
    clear hz hwz hmk
    go_wp2_with fail
    go_loopw [18] (fun i wr => ∃ k : Nat, k ≤ n ∧ i = .int .i64 k ∧ ERel w X Y p q n c A S R (fun j => if j < k then G j else 0) wr) (fun i _ => n - (intOf i).toNat)
    case atStart => exact ⟨0, Nat.zero_le _, rfl, HZ.out⟩
    case round =>
      clear r0 r1 r2 r3 f0 r4 HZ
      obtain ⟨k, hk, rfl, hrel⟩ := hrel
      have HL := hid hrel
      by_cases hlt : k < n
      · obtain ⟨ba, oa, rfl, hba, hRa⟩ := HF.out (by omega)
        have s1 : wr.cell? ⟨ba, oa + k, none⟩ = some (.float .f32 (F k)) := (hrel.be.cell (p := ⟨ba, oa + k, none⟩) hba).trans (hRa k hlt)
        have g4 := hrel.r.cell 4
        simp at g4
        have rl := hrel.r.lt
        have HC := hid (HG.out k wr.drew hlt hrel.be.drew)
        have k1 : (0 : Int) ≤ (k : Int) := by omega
        have k2 : (k : Int) < (n : Int) := by omega
        have hne := hrel.ne
        clear hrel hRa
        go_wp2_with fail
        go_region_held3 (fun w' => w'.cell? ⟨R, 4, none⟩ = some (.slice (some ⟨S, 0, none⟩) n n)) (go_keep)
          (first
            | (go_at_call 25; refine (clean_any _ _).mono ?_; rintro e w' ⟨rfl, rfl⟩)
            | (refine HC.out.mono ?_; rintro e w1 ⟨v, rfl, hv, hb⟩; have HV := hid hv; have hl1 := HL.out.below ((Below.refl _ _).drew.trans hb); have HL1 := hid hl1; have u4 : w1.cell? ⟨R, 4, none⟩ = some (.slice (some ⟨S, 0, none⟩) n n) := hl1.r.cell 4; have u5 := hl1.row.cell hlt; have u6 := hl1.row.frozen k; clear hv hb hl1))
        all_goals
          rename_i hH
          clear hH
          go_wp2_with fail
          go_roundw
          case rel => exact ⟨k + 1, by omega, by go_num, by rw [HV.out]; exact HL1.out.step⟩
          case measure => simp [intOf]; omega
      · have hk5 : k = n := by omega
        subst hk5
        have e0 := hrel.r.cell 0
        have e1 := hrel.r.cell 1
        have e2 := hrel.r.cell 2
        have e3 := hrel.r.cell 3
        have e4 := hrel.r.cell 4
        have z0 := hrel.b1.cell 0
        have z1 := hrel.b1.cell 1
        have z2 := hrel.b1.cell 2
        have z3 := hrel.b1.cell 3
        have z4 := hrel.b1.cell 4
        have fz := fun i => hrel.b1.frozen i
        simp at e0 e1 e2 e3 e4 z0 z1 z2 z3 z4
        have hblk := hrel.b1.set5 (.int .i64 X) (.int .i64 Y) (.int .i64 p) (.int .i64 q) (.slice (some ⟨S, 0, none⟩) k k)
        have HBK := hid hblk
        clear hblk hrel
        go_wp2_with fail
        refine bodyPost_ret (v := frm X Y p q (some ⟨S, 0, none⟩) k k) (results_cell_row rfl _ _ _ _ _ _ _ rfl HBK.out Tryd.underlying26 rfl (by kernel_rfl)) rfl ?_
        have h1 := HL.out.hS
        have h2 := HL.out.row.lt
        have hrow := World.rowIs.congr (g := fun j => .float .f32 (G j)) HL.out.row (fun j hj => by simp [hj])
        have hS : S ≠ w.heap.size + 1 := by omega
        exact ⟨S, rfl, by omega, ((((hrow.setOther (a := ⟨w.heap.size + 1, 0, none⟩) (by simpa using hS) _).setOther (a := ⟨w.heap.size + 1, 1, none⟩) (by simpa using hS) _).setOther (a := ⟨w.heap.size + 1, 2, none⟩) (by simpa using hS) _).setOther (a := ⟨w.heap.size + 1, 3, none⟩) (by simpa using hS) _).setOther (a := ⟨w.heap.size + 1, 4, none⟩) (by simpa using hS) _, below_set5 HL.out.be (by omega) _ _ _ _ _⟩

theorem each_any (K : FuncId) (caps : Array Value) (eK : ∀ (args : Array Value) (w : World), (callFunc K args).run Tryd.prog w = .ok (.enter K args) w) (X Y : Int) (p q n c : Nat) (A : Option Addr) (F G : Nat → Nat) (w : World)
    (hn : n ≤ 65536) (hF : Src w A n F) (hG : ∀ (i : Nat) (w1 : World), i < n → Below w.heap.size w w1 → Calls Tryd.prog K (#[.int .i64 i, .float .f32 (F i)] ++ caps) w1 (Gave w1 (G i))) :
    Calls Tryd.prog 40 #[frm X Y p q A n c, .func (.func K) #[] caps] w (Framed w X Y p q n G) :=
  (each_row K caps eK X Y p q n c A F G w hn hF hG).mono fun _ _ ⟨S, he, h1, h2, h3⟩ => ⟨S, n, he, Nat.le_refl _, by unfold maxLen; omega, h1, h2.lt, fun i hi => by rw [Nat.zero_add]; exact h2.cell hi, h3⟩

theorem enters_cleaned (args : Array Value) (w : World) : (callFunc 41 args).run Tryd.prog w = .ok (.enter 41 args) w := enters_of Tryd.func41 (by kernel_rfl) rfl args w
theorem cleaned1_any (i : Int) (v : Nat) (w : World) : Calls Tryd.prog 41 #[.int .i64 i, .float .f32 v] w (Gave w (cl v)) := by
  go_enter Tryd.func41, Tryd.ntmps41
  go_wp2_with fail
  go_ret
  exact ⟨v, rfl, rfl, Below.refl _ _⟩
set_option maxRecDepth 100000 in
set_option maxHeartbeats 1000000 in
/-- cleaned: each single cleaned. -/
theorem cleaned_any (X Y : Int) (p q n c : Nat) (A : Option Addr) (F : Nat → Nat) (w : World) (hn : n ≤ 65536) (hF : Src w A n F) :
    Calls Tryd.prog 22 #[frm X Y p q A n c] w (FRow w X Y p q n fun t => cl (F t)) := by
  have hmf : ∀ (fn : Fn) (first cap : Array Value) (w : World), (Instr.makeFunc fn first cap).run Tryd.prog w = .ok (.func fn first cap) w := fun _ _ _ _ => rfl
  have HE : RowKit.Hid (∀ w1, Below w.heap.size w w1 → Calls Tryd.prog 40 #[frm X Y p q A n c, .func (.func 41) #[] #[]] w1 (FRow w1 X Y p q n fun t => cl (F t))) := hid fun w1 hb =>
    each_row 41 #[] enters_cleaned X Y p q n c A F _ w1 hn (hF.below hb) fun i w2 _ _ => cleaned1_any i (F i) w2
  clear hF
  go_enter Tryd.func22, Tryd.ntmps22
  go_wp2_with fail
  have HB2 := hid (show Below w.heap.size w ((w.alloc (.cells #[.int .i64 X, .int .i64 Y, .int .i64 p, .int .i64 q, .slice A n c] 26)).alloc (.cells zfrm 26)) from ((Below.refl _ _).alloc (Nat.le_refl _) _).alloc (by simp) _)
  have hz : Blk ((w.alloc (.cells #[.int .i64 X, .int .i64 Y, .int .i64 p, .int .i64 q, .slice A n c] 26)).alloc (.cells zfrm 26)) (w.heap.size + 1) 26 zfrm := Blk.new_at _ _ _ (by simp)
  have HZ := hid hz
  clear hz
  refine (HE.out _ HB2.out).mono ?_
  rintro e w4 ⟨S, rfl, q3, hrow, q6⟩
  have hz4 := HZ.out.below q6 HZ.out.lt
  have z0 := hz4.cell 0
  have z1 := hz4.cell 1
  have z2 := hz4.cell 2
  have z3 := hz4.cell 3
  have z4 := hz4.cell 4
  have fz := fun i => hz4.frozen i
  simp at z0 z1 z2 z3 z4
  have HBK := hid (hz4.set5 (.int .i64 X) (.int .i64 Y) (.int .i64 p) (.int .i64 q) (.slice (some ⟨S, 0, none⟩) n n))
  have HQ := hid (And.intro hrow (below_to HB2.out q6))
  have hS : S ≠ w.heap.size + 1 := by simp at q3; omega
  have hS2 : w.heap.size ≤ S := by simp at q3; omega
  clear hz4 q6 q3 hrow
  go_wp2_with fail
  refine bodyPost_ret (v := frm X Y p q (some ⟨S, 0, none⟩) n n) (results_cell_row rfl _ _ _ _ _ _ _ rfl HBK.out Tryd.underlying26 rfl (by kernel_rfl)) rfl ?_
  exact ⟨S, rfl, hS2, ((((HQ.out.1.setOther (a := ⟨w.heap.size + 1, 0, none⟩) (by simpa using hS) _).setOther (a := ⟨w.heap.size + 1, 1, none⟩) (by simpa using hS) _).setOther (a := ⟨w.heap.size + 1, 2, none⟩) (by simpa using hS) _).setOther (a := ⟨w.heap.size + 1, 3, none⟩) (by simpa using hS) _).setOther (a := ⟨w.heap.size + 1, 4, none⟩) (by simpa using hS) _, below_set5 HQ.out.2 (by omega) _ _ _ _ _⟩
end Go.Proofs.YtejcmlpbmoikfaaDoor
