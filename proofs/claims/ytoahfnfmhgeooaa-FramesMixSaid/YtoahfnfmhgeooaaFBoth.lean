/-
  both: the reference's frame of two frames.
-/
import Derived.Test.YtoahfnfmhgeooaaFSame
import Derived.Deep.RegionHeld3
namespace Go.Proofs.Ytoahfnfmhgeooaa
open Go.RowKit Go.Shelf
attribute [local go_sem ↓] Go.wp_at_zero Go.wp_at_succ
attribute [local go_sem] run_store_float

theorem run_quo4 (ty : TypeId) (t u : Nat) (h : u = t / 4) (hb : t ≤ 65536) (w : World) : (binOp .quo ty (.int .i64 (t : Int)) (.int .i64 4)).run Try.prog w = .ok (.int .i64 (u : Int)) w := by
  have t0 : (0 : Int) ≤ (t : Int) := by omega
  have e : (t : Int).tdiv 4 = (u : Int) := by rw [Int.tdiv_eq_ediv_of_nonneg t0]; omega
  have hw : IntKind.i64.wrap (u : Int) = (u : Int) := by rw [IntKind.wrap_i64]; omega
  simp [binOp, Op.intDiv, e, hw, go_sem]

/-- The relation of the loop of both. -/
structure BoRel (w : World) (X Y X' Y' p' q' : Int) (p q n c n' c' : Nat) (A B : Option Addr) (H : Nat → Nat) (t : Nat) (v : Value) (wr : World) : Prop where
  own : wr.ownsRow (w.heap.size + 4) 40 1 v t (rowL H t)
  a : Blk wr w.heap.size 39 #[.int .i64 X, .int .i64 Y, .int .i64 p, .int .i64 q, .slice A n c]
  b : Blk wr (w.heap.size + 1) 39 #[.int .i64 X', .int .i64 Y', .int .i64 p', .int .i64 q', .slice B n' c']
  z : Blk wr (w.heap.size + 2) 39 zfrm
  f : Blk wr (w.heap.size + 3) 39 #[.int .i64 X, .int .i64 Y, .int .i64 p, .int .i64 q, v]
  be : Below w.heap.size w wr
section
variable {w : World} {X Y X' Y' p' q' : Int} {p q n c n' c' : Nat} {A B : Option Addr} {H : Nat → Nat} {t : Nat} {v v' : Value} {wr w1 w2 : World}
theorem BoRel.below (h : BoRel w X Y X' Y' p' q' p q n c n' c' A B H t v wr) (hb : Below wr.heap.size wr w1) : BoRel w X Y X' Y' p' q' p q n c n' c' A B H t v w1 :=
  ⟨own_below h.own hb, h.a.below hb h.a.lt, h.b.below hb h.b.lt, h.z.below hb h.z.lt, h.f.below hb h.f.lt, below_to h.be hb⟩
theorem BoRel.step {o : Obj} {r g cap : Nat} (h : BoRel w X Y X' Y' p' q' p q n c n' c' A B H t v wr) (hr : r = H t) (ho : w2.ownsRow (w.heap.size + 4) 40 1 (.slice (some ⟨g, 0, none⟩) (t + 1) cap) (t + 1) (rowL H t ++ [.float .f32 r]))
    (hg : (wr.alloc o).grownBy w2 v.ownBlock) : BoRel w X Y X' Y' p' q' p q n c n' c' A B H (t + 1) (.slice (some ⟨g, 0, none⟩) (t + 1) cap) (w2.setCell ⟨w.heap.size + 1 + 1 + 1, 4, none⟩ (.slice (some ⟨g, 0, none⟩) (t + 1) cap)) := by
  have hs := h.f.lt
  refine ⟨ownsRow_setCell_below (by rw [rowL_succ, ← hr]; exact ho) (by simp) _, (blk_grown h.a (by omega) h.own hg).far (by simp; omega) _, (blk_grown h.b (by omega) h.own hg).far (by simp) _, (blk_grown h.z (by omega) h.own hg).far (by simp) _, ?_, (below_grown h.be (by have := h.a.lt; omega) (by omega) h.own hg).setCell (by simp; omega) _⟩
  have := (blk_grown h.f (by omega) h.own hg).set_ 4 (.slice (some ⟨g, 0, none⟩) (t + 1) cap)
  simpa using this
end

/-- A load under another name: no load for the walk of a region, which then branches over it without a word. -/
def ldOp (t : TypeId) (x : Operand) : Op := Op.load t x
@[go_sem] theorem ldOp_eq (t : TypeId) (x : Operand) : ldOp t x = Op.load t x := rfl

theorem far_cell {w2 : World} {b j gb o : Nat} {u : Value} (h : w2.cell? ⟨b, j, none⟩ = some u) (hne : b ≠ gb) (v : Value) : (w2.setCell ⟨gb, o, none⟩ v).cell? ⟨b, j, none⟩ = some u := by
  rw [World.cell?_setCell_other w2 ⟨gb, o, none⟩ ⟨b, j, none⟩ v (fun e => hne (by injection e with e1; exact e1.symm))]
  exact h
theorem grown_cell {wr w2 : World} {o : Obj} {v : Value} (hg : (wr.alloc o).grownBy w2 v.ownBlock) {b : Nat} (hb : b < wr.heap.size) (hne : ∀ k, v.ownBlock = some k → b ≠ k) (j : Nat) {u : Value} (h : wr.cell? ⟨b, j, none⟩ = some u) : w2.cell? ⟨b, j, none⟩ = some u := by
  have e := hg.block b (by simp; omega) (fun e => hne b e.symm rfl)
  rw [World.cell?_of_block (w := wr) (w' := w2) (a := ⟨b, j, none⟩) (e.trans (Below.heap_alloc wr o b hb))]
  exact h

set_option maxRecDepth 100000 in
set_option maxHeartbeats 2000000 in
theorem both_any (K : FuncId) (caps : Array Value) (eK : ∀ (args : Array Value) (w : World), (callFunc K args).run Try.prog w = .ok (.enter K args) w) (X Y X' Y' p' q' : Int) (p q n c n' c' : Nat) (A B : Option Addr) (F G H : Nat → Nat) (w : World)
    (hn : n ≤ 65536) (hn4 : n % 4 = 0) (hnc : n ≤ c) (hcm : c ≤ maxLen) (hn0 : 0 < n) (hnn : n ≤ n') (hF : Src w A n F) (hG : Src w B n' G)
    (hH : ∀ (i : Nat) (w1 : World), i < n → Below w.heap.size w w1 → Calls Try.prog K (#[.float .f32 (F i), .float .f32 (G i), pix (fun k => F (4 * (i / 4) + k)), .int .i64 (i / 4 : Nat)] ++ caps) w1 (Gave w1 (H i))) :
    Calls Try.prog 109 #[frm X Y p q A n c, frm X' Y' p' q' B n' c', .func (.func K) #[] caps] w (Framed w X Y p q n H) := by
  obtain ⟨i0, hi, hz0, hz1, hz2⟩ := info_parts info_f32
  have HH := hid hH
  have HF := hid hF
  have HG := hid hG
  clear hF hG hH
  go_enter Try.func109, Try.ntmps109
  go_wp2_with fail
  go_loopw [16] (fun i wr => ∃ (t : Nat) (C : Option Addr) (d : Nat), t ≤ n ∧ i = .int .i64 t ∧ BoRel w X Y X' Y' p' q' p q n c n' c' A B H t (.slice C t d) wr) (fun i _ => n - (intOf i).toNat)
  case atStart =>
    refine ⟨0, none, 0, Nat.zero_le _, rfl, World.ownsRow_nil _ _ _ _, (((Blk.new_at _ _ _ rfl).alloc _).alloc _).alloc _, ((Blk.new_at _ _ _ (by simp)).alloc _).alloc _, (Blk.new_at _ _ _ (by simp)).alloc _, Blk.new_at _ _ _ (by simp), ?_⟩
    exact ((((Below.refl _ _).alloc (Nat.le_refl _) _).alloc (by simp) _).alloc (by simp; omega) _).alloc (by simp; omega) _
  case round =>
    obtain ⟨t, C, d, ht, rfl, hrel⟩ := hrel
    have HL := hid hrel
    by_cases hlt : t < n
    · obtain ⟨ba, oa, rfl, hba, hRa⟩ := HF.out hn0
      obtain ⟨bb, ob, rfl, hbb, hRb⟩ := HG.out (by omega)
      have rdA : ∀ i, i < n → wr.cell? ⟨ba, oa + i, none⟩ = some (.float .f32 (F i)) := fun i hi => (hrel.be.cell (p := ⟨ba, oa + i, none⟩) hba).trans (hRa i hi)
      have s2 : wr.cell? ⟨bb, ob + t, none⟩ = some (.float .f32 (G t)) := (hrel.be.cell (p := ⟨bb, ob + t, none⟩) hbb).trans (hRb t (by omega))
      have s1 := rdA t hlt
      obtain ⟨u, hu⟩ : ∃ u, u = t / 4 := ⟨_, rfl⟩
      have hq4 : (t : Int) / 4 = (u : Int) := by omega
      have d0 := rdA (4 * u) (by omega)
      have d1 := rdA (4 * u + 1) (by omega)
      have d2 := rdA (4 * u + 2) (by omega)
      have d3 := rdA (4 * u + 3) (by omega)
      rw [← Nat.add_assoc] at d1 d2 d3
      rw [Nat.mul_comm 4 u] at d0 d1 d2 d3
      have l1 : (u : Int) * 4 + 4 ≤ (n : Int) := by omega
      have l2 : (u : Int) * 4 + 4 ≤ (c : Int) := by omega
      have l3 : (0 : Int) ≤ (u : Int) := by omega
      have t0 : (0 : Int) ≤ (t : Int) := by omega
      have t1 : (t : Int) < (n : Int) := by omega
      have t2 : (t : Int) < (n' : Int) := by omega
      have hrq := run_quo4 3 t u hu (by omega)
      have l4 : ¬ c = 4 * u := by omega
      have a4 := hrel.a.cell 4
      have b4 := hrel.b.cell 4
      simp at a4 b4
      have hcm' := hcm
      unfold maxLen at hcm'
      have harr := fun (w : World) (a : Option Addr) (cp : Nat) => run_arrayAt (P := Try.prog) w 42 40 4 a 4 cp Try.underlying42 (Nat.le_refl 4)
      have la := hrel.a.lt
      have HU := hid hu
      clear hrel rdA hRa hRb hu hn4 hrq
      go_wp2_with fail
      obtain ⟨wq, hwq⟩ : ∃ wq, wq = wr.alloc (.cells #[.float .f32 (F (u * 4)), .float .f32 (F (u * 4 + 1)), .float .f32 (F (u * 4 + 2)), .float .f32 (F (u * 4 + 3))] 42) := ⟨_, rfl⟩
      rw [← hwq]
      have hlq := HL.out.below ((Below.refl _ _).alloc (Nat.le_refl _) (.cells #[.float .f32 (F (u * 4)), .float .f32 (F (u * 4 + 1)), .float .f32 (F (u * 4 + 2)), .float .f32 (F (u * 4 + 3))] 42))
      rw [← hwq] at hlq
      have hpb : Blk wq wr.heap.size 42 #[.float .f32 (F (u * 4)), .float .f32 (F (u * 4 + 1)), .float .f32 (F (u * 4 + 2)), .float .f32 (F (u * 4 + 3))] := by rw [hwq]; exact Blk.new_at _ _ _ rfl
      have hbr : Below wr.heap.size wr wq := by rw [hwq]; exact (Below.refl _ _).alloc (Nat.le_refl _) _
      have lba := Nat.lt_of_lt_of_le hba HL.out.be.size
      have lbb := Nat.lt_of_lt_of_le hbb HL.out.be.size
      have HS0 : RowKit.Hid (wq.cell? ⟨w.heap.size, 4, none⟩ = some (.slice (some ⟨ba, oa, none⟩) n c) ∧ wq.cell? ⟨w.heap.size + 1, 4, none⟩ = some (.slice (some ⟨bb, ob, none⟩) n' c') ∧ wq.cell? ⟨ba, oa + t, none⟩ = some (.float .f32 (F t)) ∧ wq.cell? ⟨bb, ob + t, none⟩ = some (.float .f32 (G t)) ∧ wq.cell? ⟨wr.heap.size, 0, none⟩ = some (.float .f32 (F (u * 4))) ∧ wq.cell? ⟨wr.heap.size, 1, none⟩ = some (.float .f32 (F (u * 4 + 1))) ∧ wq.cell? ⟨wr.heap.size, 2, none⟩ = some (.float .f32 (F (u * 4 + 2))) ∧ wq.cell? ⟨wr.heap.size, 3, none⟩ = some (.float .f32 (F (u * 4 + 3)))) := hid ⟨hlq.a.cell 4, hlq.b.cell 4, (hbr.cell (p := ⟨ba, oa + t, none⟩) lba).trans s1, (hbr.cell (p := ⟨bb, ob + t, none⟩) lbb).trans s2, hpb.cell 0, hpb.cell 1, hpb.cell 2, hpb.cell 3⟩
      have HOW : RowKit.Hid (∀ k, (Value.slice C t d).ownBlock = some k → w.heap.size + 4 ≤ k ∧ k < wr.heap.size) := hid fun k hk => HL.out.own.lt k hk
      have hfl := HL.out.f.lt
      have HPL := hid hpb.lt
      have HLQ := hid hlq
      have hpix : pix (fun k => F (4 * (t / 4) + k)) = .agg #[.float .f32 (F (u * 4)), .float .f32 (F (u * 4 + 1)), .float .f32 (F (u * 4 + 2)), .float .f32 (F (u * 4 + 3))] := by
        rw [← HU.out, Nat.mul_comm]; rfl
      have hc0 := HH.out t wq.drew hlt hlq.be.drew
      rw [hpix, ← HU.out] at hc0
      have HC := hid hc0
      generalize wr.heap.size = pb at *
      have n1 : ba ≠ w.heap.size + 1 + 1 + 1 := by omega
      have n2 : bb ≠ w.heap.size + 1 + 1 + 1 := by omega
      have n3 : pb ≠ w.heap.size + 1 + 1 + 1 := by omega
      clear hwq hlq hpb hbr s1 s2 d0 d1 d2 d3 a4 b4 HL hpix hc0 harr
      have e1 := HS0.out
      have hwu : IntKind.i64.wrap (u : Int) = (u : Int) := by rw [IntKind.wrap_i64]; omega
      have f0 : wq.cell? ⟨w.heap.size + 1 + 1 + 1, 4, none⟩ = some (.slice C t d) := HLQ.out.f.cell 4
      rw [show Op.load 37 (Operand.tmp 31) = ldOp 37 (Operand.tmp 31) from rfl]
      go_region_held3 (fun w' => w'.cell? ⟨w.heap.size, 4, none⟩ = some (.slice (some ⟨ba, oa, none⟩) n c) ∧ w'.cell? ⟨w.heap.size + 1, 4, none⟩ = some (.slice (some ⟨bb, ob, none⟩) n' c') ∧ w'.cell? ⟨ba, oa + t, none⟩ = some (.float .f32 (F t)) ∧ w'.cell? ⟨bb, ob + t, none⟩ = some (.float .f32 (G t)) ∧ w'.cell? ⟨pb, 0, none⟩ = some (.float .f32 (F (u * 4))) ∧ w'.cell? ⟨pb, 1, none⟩ = some (.float .f32 (F (u * 4 + 1))) ∧ w'.cell? ⟨pb, 2, none⟩ = some (.float .f32 (F (u * 4 + 2))) ∧ w'.cell? ⟨pb, 3, none⟩ = some (.float .f32 (F (u * 4 + 3)))) (first | exact e1 | exact e4 _ | assumption | go_keep)
        (first
          | (go_at_call 34; refine (fix_any _ _).mono ?_; rintro e w' ⟨rfl, rfl⟩)
          | ((refine step_append_lies _ (by rfl) (.tmp 32) (.tmp 49) 37 (by rfl) (w.heap.size + 4) 40 i0 (.float .f32 0) 1 4 Try.underlying37 hi hz0 hz1 hz2 rfl (by decide) (.slice C t d) t (rowL H t) (by rfl) (HL1.out.own.alloc _) ⟨w1.heap.size, 0, none⟩ 1 1 [.float .f32 (cl r)] (by rfl) rfl (World.news_of_block (heap_alloc_new _ _)) (by intro u hu; simp at hu; subst hu; rfl) (by decide) (by unfold maxLen; omega) (by omega) (by simp; omega) (w1.heap.size + 1) (by simp) ?_; intro g cap w2 hown2 hgrow hat hlt2; have hf2 := blk_grown HL1.out.f (by omega) HL1.out.own hgrow; have d42 : w2.cell? ⟨w.heap.size + 1 + 1 + 1, 4, none⟩ = some (.slice C t d) := hf2.cell 4; have fz2 : ∀ i, w2.frozen? ⟨w.heap.size + 1 + 1 + 1, i, none⟩ = false := fun i => hf2.frozen i; have R := HL1.out.step HV.out hown2 hgrow; have HR := hid R; have e3 : w2.cell? ⟨w.heap.size, 4, none⟩ = some (.slice (some ⟨ba, oa, none⟩) n c) ∧ w2.cell? ⟨w.heap.size + 1, 4, none⟩ = some (.slice (some ⟨bb, ob, none⟩) n' c') ∧ w2.cell? ⟨ba, oa + t, none⟩ = some (.float .f32 (F t)) ∧ w2.cell? ⟨bb, ob + t, none⟩ = some (.float .f32 (G t)) ∧ w2.cell? ⟨pb, 0, none⟩ = some (.float .f32 (F (u * 4))) ∧ w2.cell? ⟨pb, 1, none⟩ = some (.float .f32 (F (u * 4 + 1))) ∧ w2.cell? ⟨pb, 2, none⟩ = some (.float .f32 (F (u * 4 + 2))) ∧ w2.cell? ⟨pb, 3, none⟩ = some (.float .f32 (F (u * 4 + 3))) := ⟨grown_cell hgrow (by omega) (fun k hk => by have := HOW.out k hk; omega) _ e2.1, grown_cell hgrow (by omega) (fun k hk => by have := HOW.out k hk; omega) _ e2.2.1, grown_cell hgrow (by omega) (fun k hk => by have := HOW.out k hk; omega) _ e2.2.2.1, grown_cell hgrow (by omega) (fun k hk => by have := HOW.out k hk; omega) _ e2.2.2.2.1, grown_cell hgrow (by omega) (fun k hk => by have := HOW.out k hk; omega) _ e2.2.2.2.2.1, grown_cell hgrow (by omega) (fun k hk => by have := HOW.out k hk; omega) _ e2.2.2.2.2.2.1, grown_cell hgrow (by omega) (fun k hk => by have := HOW.out k hk; omega) _ e2.2.2.2.2.2.2.1, grown_cell hgrow (by omega) (fun k hk => by have := HOW.out k hk; omega) _ e2.2.2.2.2.2.2.2⟩; have e4 : ∀ v, (w2.setCell ⟨w.heap.size + 1 + 1 + 1, 4, none⟩ v).cell? ⟨w.heap.size, 4, none⟩ = some (.slice (some ⟨ba, oa, none⟩) n c) ∧ (w2.setCell ⟨w.heap.size + 1 + 1 + 1, 4, none⟩ v).cell? ⟨w.heap.size + 1, 4, none⟩ = some (.slice (some ⟨bb, ob, none⟩) n' c') ∧ (w2.setCell ⟨w.heap.size + 1 + 1 + 1, 4, none⟩ v).cell? ⟨ba, oa + t, none⟩ = some (.float .f32 (F t)) ∧ (w2.setCell ⟨w.heap.size + 1 + 1 + 1, 4, none⟩ v).cell? ⟨bb, ob + t, none⟩ = some (.float .f32 (G t)) ∧ (w2.setCell ⟨w.heap.size + 1 + 1 + 1, 4, none⟩ v).cell? ⟨pb, 0, none⟩ = some (.float .f32 (F (u * 4))) ∧ (w2.setCell ⟨w.heap.size + 1 + 1 + 1, 4, none⟩ v).cell? ⟨pb, 1, none⟩ = some (.float .f32 (F (u * 4 + 1))) ∧ (w2.setCell ⟨w.heap.size + 1 + 1 + 1, 4, none⟩ v).cell? ⟨pb, 2, none⟩ = some (.float .f32 (F (u * 4 + 2))) ∧ (w2.setCell ⟨w.heap.size + 1 + 1 + 1, 4, none⟩ v).cell? ⟨pb, 3, none⟩ = some (.float .f32 (F (u * 4 + 3))) := fun v => ⟨far_cell e3.1 (by omega) v, far_cell e3.2.1 (by omega) v, far_cell e3.2.2.1 n1 v, far_cell e3.2.2.2.1 n2 v, far_cell e3.2.2.2.2.1 n3 v, far_cell e3.2.2.2.2.2.1 n3 v, far_cell e3.2.2.2.2.2.2.1 n3 v, far_cell e3.2.2.2.2.2.2.2 n3 v⟩; clear hf2 R hown2 hgrow))
          | (refine HC.out.mono ?_; rintro e w1 ⟨r, rfl, hr, hb⟩; have HV := hid hr; have hb0 : Below wq.heap.size wq w1 := (Below.refl _ _).drew.trans hb; have HL1 := hid (HLQ.out.below hb0); have hsz := hb0.size; have hpl := HPL.out; have f4 : w1.cell? ⟨w.heap.size + 1 + 1 + 1, 4, none⟩ = some (.slice C t d) := HL1.out.f.cell 4; have f5 : ∀ o, (w1.alloc o).cell? ⟨w.heap.size + 1 + 1 + 1, 4, none⟩ = some (.slice C t d) := fun o => (World.cell?_alloc_lt w1 o ⟨w.heap.size + 1 + 1 + 1, 4, none⟩ HL1.out.f.lt).trans f4; have e2 : w1.cell? ⟨w.heap.size, 4, none⟩ = some (.slice (some ⟨ba, oa, none⟩) n c) ∧ w1.cell? ⟨w.heap.size + 1, 4, none⟩ = some (.slice (some ⟨bb, ob, none⟩) n' c') ∧ w1.cell? ⟨ba, oa + t, none⟩ = some (.float .f32 (F t)) ∧ w1.cell? ⟨bb, ob + t, none⟩ = some (.float .f32 (G t)) ∧ w1.cell? ⟨pb, 0, none⟩ = some (.float .f32 (F (u * 4))) ∧ w1.cell? ⟨pb, 1, none⟩ = some (.float .f32 (F (u * 4 + 1))) ∧ w1.cell? ⟨pb, 2, none⟩ = some (.float .f32 (F (u * 4 + 2))) ∧ w1.cell? ⟨pb, 3, none⟩ = some (.float .f32 (F (u * 4 + 3))) := ⟨(hb0.cell (p := ⟨w.heap.size, 4, none⟩) (by show w.heap.size < wq.heap.size; omega)).trans HS0.out.1, (hb0.cell (p := ⟨w.heap.size + 1, 4, none⟩) (by show w.heap.size + 1 < wq.heap.size; omega)).trans HS0.out.2.1, (hb0.cell (p := ⟨ba, oa + t, none⟩) (by show ba < wq.heap.size; omega)).trans HS0.out.2.2.1, (hb0.cell (p := ⟨bb, ob + t, none⟩) (by show bb < wq.heap.size; omega)).trans HS0.out.2.2.2.1, (hb0.cell (p := ⟨pb, 0, none⟩) hpl).trans HS0.out.2.2.2.2.1, (hb0.cell (p := ⟨pb, 1, none⟩) hpl).trans HS0.out.2.2.2.2.2.1, (hb0.cell (p := ⟨pb, 2, none⟩) hpl).trans HS0.out.2.2.2.2.2.2.1, (hb0.cell (p := ⟨pb, 3, none⟩) hpl).trans HS0.out.2.2.2.2.2.2.2⟩; clear hr hb))
      all_goals
        rename_i hH
        clear hH
        go_wp2_with fail
        go_roundw
        case rel => exact ⟨t + 1, _, _, by omega, by go_num, HR.out⟩
        case measure => simp [intOf]; omega
    · have ht5 : t = n := by omega
      subst ht5
      obtain ⟨g, cap, hv, hbg, hgl⟩ := hrel.own.form hn0
      simp at hv
      obtain ⟨rfl, rfl⟩ := hv
      have v0 := hrel.f.cell 0
      have v1 := hrel.f.cell 1
      have v2 := hrel.f.cell 2
      have v3 := hrel.f.cell 3
      have v4 := hrel.f.cell 4
      have z0 := hrel.z.cell 0
      have z1 := hrel.z.cell 1
      have z2 := hrel.z.cell 2
      have z3 := hrel.z.cell 3
      have z4 := hrel.z.cell 4
      have fz := fun i => hrel.z.frozen i
      simp at z0 z1 z2 z3 z4 v0 v1 v2 v3 v4
      have hblk := hrel.z.set5 (.int .i64 X) (.int .i64 Y) (.int .i64 p) (.int .i64 q) (.slice (some ⟨g, 0, none⟩) t d)
      have HBK := hid hblk
      clear hblk hrel hn4
      go_wp2_with fail
      refine bodyPost_ret (v := frm X Y p q (some ⟨g, 0, none⟩) t d) (results_cell_row rfl _ _ _ _ _ _ _ rfl HBK.out Try.underlying39 rfl (by kernel_rfl)) rfl ?_
      obtain ⟨b, c2, he, q1, q2, q3, q4, q5, q6⟩ := Planed.of_own (w := w) hn0 (by omega) HL.out.own HL.out.be
      simp at he
      obtain ⟨rfl, rfl⟩ := he
      exact ⟨g, d, rfl, q1, q2, q3, by rw [size_set5]; exact q4, q5.far5 (by omega) _ _ _ _ _, below_set5 q6 (by omega) _ _ _ _ _⟩
end Go.Proofs.Ytoahfnfmhgeooaa
