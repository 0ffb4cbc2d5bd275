/-
  Cubes: looked: a colour looked up in whatever way.
-/
import Derived.Test.YthnbfllhmjpbjaaKPl
import Derived.Test.YthnbfllhmjpbjaaKCmp
import Derived.LoopTactic
namespace Go.Proofs.Ythnbfllhmjpbjaa
open Go.RowKit
attribute [local go_sem] run_store_float

abbrev pA (f : Nat → Nat) : Array Value := #[.float .f32 (f 0), .float .f32 (f 1), .float .f32 (f 2), .float .f32 (f 3)]
/-- Where a pixel lies. -/
def spN (S : Int) (L H : Nat) (p : Nat → Nat) (k : Nat) : Nat := (plN S L H (p k)).toNat
def spX (S : Int) (L H : Nat) (p : Nat → Nat) (k : Nat) : Nat := plS S L H (p k)
/-- A pixel looked up. -/
def lookC (T p : Nat → Nat) (j : Nat) : Nat := if j < 3 then (if nan3 p = true then 2143289344 else T j) else cl (p 3)

/-- What lies in the first loop. -/
structure LkR (S : Int) (L H n c : Nat) (A : Option Addr) (p : Nat → Nat) (w : World) (k : Nat) (wr : World) : Prop where
  b0 : Blk wr w.heap.size 25 #[.int .i64 S, .float .f32 L, .float .f32 H, .slice A n c]
  b1 : Blk wr (w.heap.size + 1) 27 (pA p)
  b2 : Blk wr (w.heap.size + 1 + 1) 27 zpix
  b3 : Blk wr (w.heap.size + 1 + 1 + 1) 27 #[.float .f32 0, .float .f32 0, .float .f32 0, .float .f32 (cl (p 3))]
  b4 : Blk wr (w.heap.size + 1 + 1 + 1 + 1) 140 (spotA (fun j => if j < k then spN S L H p j else 0) (fun j => if j < k then spX S L H p j else 0))
  be : Below w.heap.size w wr
theorem LkR.below {S : Int} {L H n c : Nat} {A : Option Addr} {p : Nat → Nat} {w wr w2 : World} {k : Nat} (h : LkR S L H n c A p w k wr) (hb : Below wr.heap.size wr w2) : LkR S L H n c A p w k w2 :=
  ⟨h.b0.below hb h.b0.lt, h.b1.below hb h.b1.lt, h.b2.below hb h.b2.lt, h.b3.below hb h.b3.lt, h.b4.below hb h.b4.lt, below_to h.be hb⟩
theorem LkR.step {S : Int} {L H n c : Nat} {A : Option Addr} {p : Nat → Nat} {w wr : World} {k : Nat} (h : LkR S L H n c A p w k wr) (hk : k < 3) (h0 : 0 ≤ plN S L H (p k)) :
    LkR S L H n c A p w (k + 1) ((wr.setCell ⟨w.heap.size + 1 + 1 + 1 + 1, k, none⟩ (.int .i64 (plN S L H (p k)))).setCell ⟨w.heap.size + 1 + 1 + 1 + 1, 3 + k, none⟩ (.float .f32 (plS S L H (p k)))) := by
  refine ⟨(h.b0.far (by dsimp only; omega) _).far (by dsimp only; omega) _, (h.b1.far (by dsimp only; omega) _).far (by dsimp only; omega) _, (h.b2.far (by dsimp only; omega) _).far (by dsimp only; omega) _, (h.b3.far (by dsimp only; omega) _).far (by dsimp only; omega) _, ?_,
    (h.be.setCell (p := ⟨w.heap.size + 1 + 1 + 1 + 1, k, none⟩) (by simp; omega) _).setCell (p := ⟨w.heap.size + 1 + 1 + 1 + 1, 3 + k, none⟩) (by simp; omega) _⟩
  have e : plN S L H (p k) = ((spN S L H p k : Nat) : Int) := by unfold spN; omega
  have e2 : plS S L H (p k) = spX S L H p k := rfl
  have := (h.b4.set_ k (.int .i64 (plN S L H (p k)))).set_ (3 + k) (.float .f32 (plS S L H (p k)))
  rw [e, e2] at this ⊢
  have hk3 : k = 0 ∨ k = 1 ∨ k = 2 := by omega
  rcases hk3 with rfl | rfl | rfl <;> simpa [spotA, pA] using this

/-- What lies in the second loop. -/
structure LkQ (p T : Nat → Nat) (w : World) (k : Nat) (wr : World) : Prop where
  b2 : Blk wr (w.heap.size + 1 + 1) 27 zpix
  b3 : Blk wr (w.heap.size + 1 + 1 + 1) 27 (pA fun j => if j < 3 then (if j < k then T j else 0) else cl (p 3))
  be : Below w.heap.size w wr
theorem LkQ.step {p T : Nat → Nat} {w wr : World} {k : Nat} (h : LkQ p T w k wr) (hk : k < 3) : LkQ p T w (k + 1) (wr.setCell ⟨w.heap.size + 1 + 1 + 1, k, none⟩ (.float .f32 (T k))) := by
  refine ⟨h.b2.far (by dsimp only; omega) _, ?_, h.be.setCell (p := ⟨w.heap.size + 1 + 1 + 1, k, none⟩) (by simp; omega) _⟩
  have := h.b3.set_ k (.float .f32 (T k))
  have hk3 : k = 0 ∨ k = 1 ∨ k = 2 := by omega
  rcases hk3 with rfl | rfl | rfl <;> simpa [spotA, pA] using this

theorem nan3_yes {p : Nat → Nat} {k : Nat} (hk : k < 3) (h : isN .f32 (p k) = true) : nan3 p = true := by
  unfold nan3
  have hk3 : k = 0 ∨ k = 1 ∨ k = 2 := by omega
  rcases hk3 with rfl | rfl | rfl <;> simp [h]
theorem nan3_no {p : Nat → Nat} (h : ∀ k, k < 3 → isN .f32 (p k) = false) : nan3 p = false := by
  unfold nan3
  simp [h 0 (by omega), h 1 (by omega), h 2 (by omega)]
theorem Blk.set4 {w : World} {b : Nat} {t : TypeId} {c0 c1 c2 c3 : Value} (h : Blk w b t #[c0, c1, c2, c3]) (u0 u1 u2 u3 : Value) :
    Blk ((((w.setCell ⟨b, 0, none⟩ u0).setCell ⟨b, 1, none⟩ u1).setCell ⟨b, 2, none⟩ u2).setCell ⟨b, 3, none⟩ u3) b t #[u0, u1, u2, u3] := by
  simpa using (((h.set_ 0 u0).set_ 1 u1).set_ 2 u2).set_ 3 u3
theorem below_set4 {B : Nat} {a w : World} (h : Below B a w) {g : Nat} (hg : B ≤ g) (u0 u1 u2 u3 : Value) :
    Below B a ((((w.setCell ⟨g, 0, none⟩ u0).setCell ⟨g, 1, none⟩ u1).setCell ⟨g, 2, none⟩ u2).setCell ⟨g, 3, none⟩ u3) :=
  (((h.setCell (p := ⟨g, 0, none⟩) hg u0).setCell (p := ⟨g, 1, none⟩) hg u1).setCell (p := ⟨g, 2, none⟩) hg u2).setCell (p := ⟨g, 3, none⟩) hg u3

set_option maxRecDepth 100000 in
set_option maxHeartbeats 4000000 in
theorem looked_any (K : FuncId) (eK : ∀ (args : Array Value) (w : World), (callFunc K args).run Try.prog w = .ok (.enter K args) w) (S : Int) (L H n c : Nat) (A : Option Addr) (p T : Nat → Nat) (w : World) (hC : CubOk S L H n)
    (hK : nan3 p = false → ∀ w1, Below w.heap.size w w1 → Calls Try.prog K #[cub S L H A n c, .agg (spotA (spN S L H p) (spX S L H p))] w1 (Gave3 w1 T)) :
    Calls Try.prog 68 #[cub S L H A n c, .func (.func K) #[] #[], pix p] w fun e w' => e = .returned (pix (lookC T p)) ∧ Below w.heap.size w w' := by
  have HC := hid hC
  have HK := hid hK
  clear hC hK
  rw [pix_cells p]
  go_enter Try.func68, Try.ntmps68
  go_wp2_with (go_at_call 117; refine (clean_any _ _).mono ?_; rintro e w' ⟨rfl, rfl⟩)
  go_loopw [19] (fun i wr => ∃ k : Nat, k ≤ 3 ∧ i = .int .i64 k ∧ (∀ j, j < k → isN .f32 (p j) = false) ∧ LkR S L H n c A p w k wr) (fun i _ => 3 - (intOf i).toNat)
  case atStart =>
    refine ⟨0, by omega, rfl, fun j hj => absurd hj (by omega), ⟨((((Blk.new_at _ _ _ rfl).alloc _).alloc _).alloc _).alloc _, (((Blk.new_at _ _ _ (by simp)).alloc _).alloc _).alloc _, ((Blk.new_at _ _ _ (by simp)).alloc _).alloc _, (Blk.new_at _ _ _ (by simp)).alloc _, ?_, ?_⟩⟩
    · exact Blk.new_at _ _ _ (by simp)
    · exact (((((Below.refl _ _).alloc (Nat.le_refl _) _).alloc (by simp) _).alloc (by simp; omega) _).alloc (by simp; omega) _).alloc (by simp; omega) _
  case round =>
    obtain ⟨k, hk, rfl, hnn, hrel⟩ := hrel
    have HN := hid hnn
    have HR := hid hrel
    clear hnn
    by_cases hlt : k < 3
    · have hk3 : k = 0 ∨ k = 1 ∨ k = 2 := by omega
      have k2 : (k : Int) < 3 := by omega
      have c4 : wr.cell? ⟨w.heap.size + 1, k, none⟩ = some (.float .f32 (p k)) := by
        rw [hrel.b1.cell k]
        rcases hk3 with rfl | rfl | rfl <;> simp
      by_cases hn : isN .f32 (p k) = true
      · have h1 := ne_self .f32 (p k)
        rw [hn] at h1
        have d3 := hrel.b3.cell 3
        have e0 := hrel.b2.cell 0
        have e1 := hrel.b2.cell 1
        have e2 := hrel.b2.cell 2
        have e3 := hrel.b2.cell 3
        have ef := fun i => hrel.b2.frozen i
        simp at d3 e0 e1 e2 e3
        have HQ : RowKit.Hid (cl (p k) = 2143289344) := hid (by unfold cl; rw [cn_of_nan hn]; rfl)
        have HY := hid (nan3_yes hlt hn)
        clear hn hrel hk3
        go_wp2_with (go_at_call 117; refine (clean_any _ _).mono ?_; rintro e w' ⟨rfl, rfl⟩)
        have hblk := HR.out.b2.set4 (.float .f32 (cl (p k))) (.float .f32 (cl (p k))) (.float .f32 (cl (p k))) (.float .f32 (cl (p 3)))
        have hb2 := below_set4 HR.out.be (g := w.heap.size + 1 + 1) (by omega) (.float .f32 (cl (p k))) (.float .f32 (cl (p k))) (.float .f32 (cl (p k))) (.float .f32 (cl (p 3)))
        exact bodyPost_ret (v := pix fun j => if j < 3 then cl (p k) else cl (p 3)) (results_cell_row rfl _ _ _ _ _ _ _ rfl hblk Try.underlying27 rfl (by kernel_rfl)) rfl ⟨by
          have : (fun j => if j < 3 then cl (p k) else cl (p 3)) = lookC T p := by
            funext j; unfold lookC; rw [if_pos HY.out, HQ.out]
          rw [this], hb2⟩
      · have hn' : isN .f32 (p k) = false := by simpa using hn
        have h1 := ne_self .f32 (p k)
        rw [hn'] at h1
        have c0 := hrel.b0.cell 0
        have c1 := hrel.b0.cell 1
        have c2 := hrel.b0.cell 2
        have c3 := hrel.b0.cell 3
        simp at c0 c1 c2 c3
        have HN2 : RowKit.Hid (∀ j, j < k + 1 → isN .f32 (p j) = false) := hid fun j hj => by
          by_cases e : j = k
          · rw [e]; exact hn'
          · exact HN.out j (by omega)
        clear hn hn' hrel
        go_wp2_with fail
        refine (place_any S L H (p k) A n c _ HC.out).mono ?_
        rintro e w1 ⟨rfl, hb1⟩
        have hr1 := HR.out.below hb1
        have HR1 := hid hr1
        have e4 : (w1.cell? ⟨w.heap.size + 1 + 1 + 1 + 1, k, none⟩).isSome = true ∧ (w1.cell? ⟨w.heap.size + 1 + 1 + 1 + 1, 3 + k, none⟩).isSome = true := by
          rw [hr1.b4.cell k, hr1.b4.cell (3 + k)]
          rcases hk3 with rfl | rfl | rfl <;> simp
        obtain ⟨⟨x1, g1⟩, ⟨x2, g2⟩⟩ : (∃ v, w1.cell? ⟨w.heap.size + 1 + 1 + 1 + 1, k, none⟩ = some v) ∧ (∃ v, w1.cell? ⟨w.heap.size + 1 + 1 + 1 + 1, 3 + k, none⟩ = some v) := ⟨Option.isSome_iff_exists.1 e4.1, Option.isSome_iff_exists.1 e4.2⟩
        have gf := fun i => hr1.b4.frozen i
        have hne : ¬ k = 3 + k := by omega
        have HP := hid (pl_wf (L := L) (H := H) (p k) HC.out.s1 HC.out.s2).1
        clear hb1 hr1 e4 hk3 HR c0 c1 c2 c3
        go_wp2
        go_roundw
        case rel => exact ⟨k + 1, by omega, by go_num, HN2.out, HR1.out.step hlt HP.out⟩
        case measure => simp [intOf]; omega
    · obtain rfl : k = 3 := by omega
      have hcall := HK.out (nan3_no HN.out) wr hrel.be
      have HCALL := hid hcall
      have HNN := hid (nan3_no HN.out)
      have c0 := hrel.b0.cell 0
      have c1 := hrel.b0.cell 1
      have c2 := hrel.b0.cell 2
      have c3 := hrel.b0.cell 3
      have hs : Blk wr (w.heap.size + 1 + 1 + 1 + 1) 140 (spotA (spN S L H p) (spX S L H p)) := hrel.b4
      have d0 := hs.cell 0
      have d1 := hs.cell 1
      have d2 := hs.cell 2
      have d3 := hs.cell 3
      have d4 := hs.cell 4
      have d5 := hs.cell 5
      simp at c0 c1 c2 c3 d0 d1 d2 d3 d4 d5
      clear hcall hs hrel hk hlt
      go_wp2_with fail
      refine HCALL.out.mono ?_
      rintro e w1 ⟨f, rfl, hf, hb1⟩
      have hr1 := HR.out.below hb1
      have hq0 : LkQ p T w 0 w1 := ⟨hr1.b2, hr1.b3, hr1.be⟩
      have HQ0 := hid hq0
      have HF := hid hf
      clear hb1 hr1 hq0 hf HR HCALL c0 c1 c2 c3 d0 d1 d2 d3 d4 d5
      go_wp2_with fail
      go_loopw [52] (fun i wr => ∃ k : Nat, k ≤ 3 ∧ i = .int .i64 k ∧ LkQ p T w k wr) (fun i _ => 3 - (intOf i).toNat)
      case atStart => exact ⟨0, by omega, rfl, HQ0.out⟩
      case round =>
        obtain ⟨k, hk, rfl, hrel⟩ := hrel
        clear HQ0
        have HR := hid hrel
        by_cases hlt : k < 3
        · have hi := run_index_arr f k hlt
          have hk3 : k = 0 ∨ k = 1 ∨ k = 2 := by omega
          have e4 : (wr.cell? ⟨w.heap.size + 1 + 1 + 1, k, none⟩).isSome = true := by
            rw [hrel.b3.cell k]
            rcases hk3 with rfl | rfl | rfl <;> simp
          obtain ⟨x1, g1⟩ := Option.isSome_iff_exists.1 e4
          have gf := fun i => hrel.b3.frozen i
          have k2 : (k : Int) < 4 := by omega
          have k3 : (k : Int) < 3 := by omega
          have HFK := hid (HF.out k hlt)
          clear hrel e4 hk3
          go_wp2_with (go_at_call 117; refine (clean_any _ _).mono ?_; rintro e w' ⟨rfl, rfl⟩)
          go_roundw
          case rel => exact ⟨k + 1, by omega, by go_num, by rw [HFK.out]; exact HR.out.step hlt⟩
          case measure => simp [intOf]; omega
        · obtain rfl : k = 3 := by omega
          have b3 : Blk wr (w.heap.size + 1 + 1 + 1) 27 #[.float .f32 (T 0), .float .f32 (T 1), .float .f32 (T 2), .float .f32 (cl (p 3))] := hrel.b3
          have d0 := b3.cell 0
          have d1 := b3.cell 1
          have d2 := b3.cell 2
          have d3 := b3.cell 3
          have e0 := hrel.b2.cell 0
          have e1 := hrel.b2.cell 1
          have e2 := hrel.b2.cell 2
          have e3 := hrel.b2.cell 3
          have ef := fun i => hrel.b2.frozen i
          simp at d0 d1 d2 d3 e0 e1 e2 e3
          clear hrel b3
          go_wp2
          have hblk := HR.out.b2.set4 (.float .f32 (T 0)) (.float .f32 (T 1)) (.float .f32 (T 2)) (.float .f32 (cl (p 3)))
          have hb2 := below_set4 HR.out.be (g := w.heap.size + 1 + 1) (by omega) (.float .f32 (T 0)) (.float .f32 (T 1)) (.float .f32 (T 2)) (.float .f32 (cl (p 3)))
          exact bodyPost_ret (v := pix fun j => if j < 3 then T j else cl (p 3)) (results_cell_row rfl _ _ _ _ _ _ _ rfl hblk Try.underlying27 rfl (by kernel_rfl)) rfl ⟨by
            have : (fun j => if j < 3 then T j else cl (p 3)) = lookC T p := by
              funext j; simp [lookC, HNN.out]
            rw [this], hb2⟩
end Go.Proofs.Ythnbfllhmjpbjaa
