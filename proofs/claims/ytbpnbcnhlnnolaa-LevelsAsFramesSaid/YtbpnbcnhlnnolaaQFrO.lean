/-
  Frame of levels, in the program.
-/
import Derived.Test.YtbpnbcnhlnnolaaQFrE
import Derived.Test.YtbpnbcnhlnnolaaQEpx
namespace Go.Proofs.Ytbpnbcnhlnnolaa
open Go.RowKit Go.Shelf
attribute [local go_sem] run_store_float

/-- A frame made, and no error. -/
def FrOk (w : World) (X Y : Int) (p q m : Nat) (F : Nat → Nat) (e : Ending) (w' : World) : Prop :=
  ∃ b c, e = .returned (.tuple #[frm X Y p q (some ⟨b, 0, none⟩) m c, .int .i64 0]) ∧ m ≤ c ∧ c ≤ maxLen ∧ w.heap.size ≤ b ∧ b < w'.heap.size ∧ Rd w' b 0 m F ∧ Below w.heap.size w w'
/-- A level. -/
def gdL (d n : Int) : Prop := 0 ≤ n ∧ n ≤ mx d

/-- What lies there behind t levels. -/
structure FI (G : Nat → Nat) (w : World) (X Y : Int) (p q n S R : Nat) (t : Nat) (wr : World) : Prop where
  own : wr.ownsRow (w.heap.size + 2) 40 1 (.slice (some ⟨S, 0, none⟩) t n) t (rowL G t)
  box : Blk wr R 26 #[.int .i64 X, .int .i64 Y, .int .i64 p, .int .i64 q, .slice (some ⟨S, 0, none⟩) t n]
  rb : Blk wr (w.heap.size + 1) 26 zfrm
  be : Below w.heap.size w wr
  ls : w.heap.size + 2 ≤ S
  lr : w.heap.size + 2 ≤ R
  ne : S ≠ R
section
variable {G : Nat → Nat} {w wr w1 w2 : World} {X Y : Int} {p q n S R t : Nat}
/-- A value appended, and the slice laid into its box. -/
theorem FI.step {o : Obj} (h : FI G w X Y p q n S R t wr) (ho : w1.ownsRow (w.heap.size + 2) 40 1 (.slice (some ⟨S, 0, none⟩) (t + 1) n) (t + 1) (rowL G t ++ [.float .f32 (G t)]))
    (hg : (wr.alloc o).grownBy w1 (some S)) : FI G w X Y p q n S R (t + 1) (w1.setCell ⟨R, 4, none⟩ (.slice (some ⟨S, 0, none⟩) (t + 1) n)) := by
  have h1 := h.ls
  have h2 := h.lr
  have h3 := h.ne
  have hbe : Below w.heap.size w (wr.alloc o) := h.be.alloc h.be.size _
  refine ⟨?_, ?_, ?_, ?_, h1, h2, h3⟩
  · rw [rowL_succ]
    exact own_same ho (Below.heap_setCell _ _ _ _ (fun e => h3 e))
  · have := ((h.box.alloc o).grown hg (by simpa using fun e => h3 e.symm)).set_ 4 (.slice (some ⟨S, 0, none⟩) (t + 1) n)
    simpa using this
  · exact ((h.rb.alloc o).grown hg (by simp; omega)).far (by simp; omega) _
  · exact (hbe.grown hg hbe.size (fun k e => by cases e; omega)).setCell (by simp; omega) _
end

set_option maxRecDepth 100000 in
set_option maxHeartbeats 4000000 in
theorem frame_any (X Y : Int) (p q : Nat) (d : Int) (b off n c : Nat) (L : Nat → Int) (w : World) (h : regE X Y p q = 0) (hd : 1 ≤ d ∧ d ≤ 16) (hn : (n : Int) = 4 * p * q) (hnc : n ≤ c) (hb0 : b < w.heap.size) (hR : RdI w b off n L) :
    Calls Try.prog 20 #[reg X Y p q, .slice (some ⟨b, off, none⟩) n c, .int .i64 d] w fun e w' => (FrOk w X Y p q n (fun k => vaC (L k) d) e w' ∧ ∀ k, k < n → gdL d (L k)) ∨ (ErrOut w 3 e w' ∧ ∃ k, k < n ∧ ¬ gdL d (L k)) := by
  have z9 : (regE X Y p q != 0) = false := by simp [h]
  obtain ⟨a1, a2, b1, b2, ab, x1, x2, y1, y2⟩ := regE_zero h
  obtain ⟨p1, p2⟩ := prod_le a1 a2 b1 b2
  obtain ⟨q1, q2⟩ := prod4_le p1 ab
  have r1 : 4 * (p : Int) ≤ 1024 := by omega
  have hn0 : 0 < n := by omega
  have hn2 : n ≤ 65536 := by omega
  have z8 : ((n : Int) != 4 * p * q) = false := by simp [hn]
  have hd1 : depB d = true := depB_true.2 hd
  have HR := hid hR
  have HD := hid hd
  obtain ⟨i0, hi, hz0, hz1, hz2⟩ := info_parts info_f32
  have hmk := run_make_cap (P := Try.prog) 24 40 i0 (.float .f32 0) Try.underlying24 hi hz0 hz1 rfl .i64 .i64 n (by rw [hz2]; omega) (by omega)
  clear h hd hn hR
  go_enter Try.func20, Try.ntmps20
  go_wp2_with fail
  refine (checkRegion_any _ _ _ _ _).mono ?_
  rintro e w1 ⟨rfl, hb⟩
  have H1 := hid ((FB.new X Y p q w).below hb)
  have f0 := H1.out.f.cell 0
  have f1 := H1.out.f.cell 1
  have f2 := H1.out.f.cell 2
  have f3 := H1.out.f.cell 3
  have l2 := H1.out.r.lt
  have l3 := H1.out.f.lt
  simp at f0 f1 f2 f3
  clear hb
  go_wp2_with (go_at_call 80; refine (isDepth_any _ _).mono ?_; rintro e w' ⟨rfl, rfl⟩)
  go_region_held3 (fun w' => w'.cell? ⟨w.heap.size, 0, none⟩ = some (.int .i64 X) ∧ w'.cell? ⟨w.heap.size, 1, none⟩ = some (.int .i64 Y) ∧ w'.cell? ⟨w.heap.size, 2, none⟩ = some (.int .i64 p) ∧ w'.cell? ⟨w.heap.size, 3, none⟩ = some (.int .i64 q)) (go_keep) (fail)
  all_goals
    rename_i hH
    clear hH f0 f1 f2 f3 z8 q1 q2 r1 p1 p2 ab
    generalize hwz : World.drew _ = wz
    have ls := H1.out.r.lt
    first
      | (have hz : FI (fun k => vaC (L k) d) w X Y p q n w1.heap.size (w1.heap.size + 1) 0 wz := by
           subst hwz
           exact ⟨own_made ((Blk.new_at _ _ _ rfl).alloc _) (by omega) (by unfold maxLen; omega), Blk.new_at _ _ _ (by simp), (H1.out.r.alloc _).alloc _, ((H1.out.be.alloc H1.out.be.size _).alloc (by have := H1.out.be.size; simp; omega) _).drew, by omega, by omega, by omega⟩
         generalize w1.heap.size + 1 = R at *
         generalize w1.heap.size = S at *)
      | (have hz : FI (fun k => vaC (L k) d) w X Y p q n (w1.heap.size + 1) w1.heap.size 0 wz := by
           subst hwz
           exact ⟨own_made (Blk.new_at _ _ _ (by simp)) (by omega) (by unfold maxLen; omega), (Blk.new_at _ _ _ rfl).alloc _, (H1.out.r.alloc _).alloc _, ((H1.out.be.alloc H1.out.be.size _).alloc (by have := H1.out.be.size; simp; omega) _).drew, by omega, by omega, by omega⟩
         generalize w1.heap.size + 1 = S at *
         generalize w1.heap.size = R at *)
    have HZ := hid hz
    clear hz hwz hmk H1 ls l2 l3
    go_wp2_with fail
    go_loopw [41] (fun i wr => ∃ t : Nat, t ≤ n ∧ i = .int .i64 t ∧ FI (fun k => vaC (L k) d) w X Y p q n S R t wr ∧ (∀ k, k < t → gdL d (L k))) (fun i _ => n - (intOf i).toNat)
    case atStart => exact ⟨0, Nat.zero_le _, rfl, HZ.out, fun k hk => absurd hk (by omega)⟩
    case round =>
      clear HZ
      obtain ⟨t, ht, rfl, hI, hall⟩ := hrel
      have HI := hid hI
      have HA := hid hall
      have r4 := hI.box.cell 4
      have lr := hI.box.lt
      simp at r4
      by_cases hlt : t < n
      · have hc := (hI.be.cell (p := ⟨b, off + t, none⟩) hb0).trans (HR.out t hlt)
        have hown := hI.own
        by_cases hgd : gdL d (L t)
        · have HG := hid hgd
          have HV := hid fun w => value_ok (L t) d HD.out hgd.1 hgd.2 w
          clear hI hall hgd
          go_wp2_with (first | (go_at_call 65; refine (HV.out _).mono ?_; rintro e w' ⟨rfl, rfl⟩) | (at_builtin; refine wpList_append_own_spare _ rfl _ _ 24 rfl (w.heap.size + 2) 40 i0 1 Try.underlying24 hi hz1 S t n (rowL (fun k => vaC (L k) d) t) rfl (own_below hown ((Below.refl _ _).alloc (Nat.le_refl _) _)) ⟨wr.heap.size, 0, none⟩ 1 1 [.float .f32 (vaC (L t) d)] rfl rfl (by intro j u hj; match j, hj with | 0, hj => (simp at hj; subst hj; simp [Addr.add])) (by intro u hu; simp at hu; subst hu; rfl) (by omega) ?_))
          intro w2 hown2 hgrow2
          have hbx := (HI.out.box.alloc (.cells #[.float .f32 (vaC (L t) d)] 40)).grown hgrow2 (by simpa using fun e => HI.out.ne e.symm)
          have s4 := hbx.cell 4
          have fz := fun i => hbx.frozen i
          simp at s4
          have HS := hid (HI.out.step hown2 hgrow2)
          clear hbx hown2 hgrow2 hown hc r4
          go_wp2_with fail
          go_roundw
          case rel => exact ⟨t + 1, by omega, by go_num, HS.out, fun k hk => by rcases Nat.lt_or_ge k t with h1 | h1; exact HA.out k h1; exact (show k = t by omega) ▸ HG.out⟩
          case measure => simp [intOf]; omega
        · have HG := hid hgd
          have HV := hid fun w => value_bad (L t) d (fun e => HG.out ⟨e.2.1, e.2.2⟩) w
          have z0 := HI.out.rb.cell 0
          have z1 := HI.out.rb.cell 1
          have z2 := HI.out.rb.cell 2
          have z3 := HI.out.rb.cell 3
          have z4 := HI.out.rb.cell 4
          have fz := fun i => HI.out.rb.frozen i
          have l2 := HI.out.rb.lt
          simp at z0 z1 z2 z3 z4
          have HBK := hid (HI.out.rb.set5 (.int .i64 0) (.int .i64 0) (.int .i64 0) (.int .i64 0) (.slice none 0 0))
          have HBE := hid HI.out.be
          clear hI hall hgd hown r4
          go_wp2_with (go_at_call 65; refine (HV.out _).mono ?_; rintro e w' ⟨rfl, rfl⟩)
          refine bodyPost_ret (v := .tuple #[.agg zfrm, .int .i64 (3)]) (results_row_tmp rfl _ _ _ _ _ _ rfl rfl HBK.out Try.underlying26 rfl (by kernel_rfl)) rfl ?_
          exact .inr ⟨⟨rfl, below_set5 HBE.out (by omega) _ _ _ _ _⟩, t, hlt, HG.out⟩
      · obtain rfl : t = n := by omega
        have g0 := hI.box.cell 0
        have g1 := hI.box.cell 1
        have g2 := hI.box.cell 2
        have g3 := hI.box.cell 3
        have z0 := hI.rb.cell 0
        have z1 := hI.rb.cell 1
        have z2 := hI.rb.cell 2
        have z3 := hI.rb.cell 3
        have z4 := hI.rb.cell 4
        have fz := fun i => hI.rb.frozen i
        simp at g0 g1 g2 g3 z0 z1 z2 z3 z4
        have HBK := hid (hI.rb.set5 (.int .i64 X) (.int .i64 Y) (.int .i64 p) (.int .i64 q) (.slice (some ⟨S, 0, none⟩) t t))
        clear hI hall
        go_wp2_with fail
        refine bodyPost_ret (v := .tuple #[frm X Y p q (some ⟨S, 0, none⟩) t t, .int .i64 0]) (results_row_tmp rfl _ _ _ _ _ _ rfl rfl HBK.out Try.underlying26 rfl (by kernel_rfl)) rfl ?_
        obtain ⟨b', c', he, q1, q2, q3, q4, q5, q6⟩ := Planed.of_own (w := w) hn0 (by omega) HI.out.own HI.out.be
        simp at he
        obtain ⟨rfl, rfl⟩ := he
        have hls := HI.out.ls
        exact .inl ⟨⟨S, t, rfl, q1, q2, q3, by rw [size_set5]; exact q4, q5.far5 (by omega) _ _ _ _ _, below_set5 q6 (by omega) _ _ _ _ _⟩, HA.out⟩
end Go.Proofs.Ytbpnbcnhlnnolaa
