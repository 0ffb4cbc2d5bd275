/-
  Every pixel of a frame shown to a function value.
-/
import Derived.Test.YthoiiccecneefaaQNum
import Derived.Laws.OwnMore
namespace Go.Proofs.Ythoiiccecneefaa
open Go.RowKit Go.Shelf
attribute [local go_sem] run_store_float

/-- A pixel and an error, and what was there is as it was. -/
def PixOut (w : World) (E : Int) (P : Nat → Nat) (e : Ending) (w' : World) : Prop := e = .returned (.tuple #[pix P, .int .i64 E]) ∧ Below w.heap.size w w'

set_option maxRecDepth 100000 in
theorem take_long (B : Option Addr) (m d : Nat) (G : Nat → Nat) (w : World) (hm : 4 ≤ m) (hmd : m ≤ d) (hd : d ≤ maxLen) (hG : Src w B m G) : Calls Try.prog 95 #[.slice B m d] w (PixOut w 0 G) := by
  obtain ⟨b, off, rfl, hb, hR⟩ := hG (by omega)
  have h1 : ¬ (m : Int) < 4 := by omega
  have h2 : (4 : Int) ≤ (d : Int) := by omega
  unfold maxLen at hd
  have d0 := hR 0 (by omega)
  have d1 := hR 1 (by omega)
  have d2 := hR 2 (by omega)
  have d3 := hR 3 (by omega)
  rw [Nat.add_zero] at d0
  have harr := fun (w : World) (a : Option Addr) (cp : Nat) => run_arrayAt (P := Try.prog) w 47 40 4 a 4 cp Try.underlying47 (Nat.le_refl 4)
  have HBK : RowKit.Hid (Blk (w.alloc (.cells (pixA G) 47)) w.heap.size 47 (pixA G)) := Blk.new_at _ _ _ rfl
  clear hR
  go_enter Try.func95, Try.ntmps95
  go_wp2_with fail
  refine bodyPost_ret (v := .tuple #[pix G, .int .i64 0]) (results_row_tmp rfl _ _ _ _ _ _ rfl rfl HBK.out Try.underlying47 rfl (by kernel_rfl)) rfl ⟨rfl, ?_⟩
  exact (Below.refl _ _).alloc (Nat.le_refl _) _


/-- The relation of visit's loops, behind t pixels. -/
structure VRel (S : Nat → Prop) (I : Nat → World → Prop) (w : World) (X Y : Int) (p q n c b off : Nat) (t : Nat) (v : Value) (wr : World) : Prop where
  val : ∃ A, v = .slice A (n - 4 * t) (c - 4 * t) ∧ (4 * t < n → A = some ⟨b, off + 4 * t, none⟩)
  b0 : Blk wr w.heap.size 26 #[.int .i64 X, .int .i64 Y, .int .i64 p, .int .i64 q, .slice (some ⟨b, off, none⟩) n c]
  be : KB S w wr
  inv : I t wr

theorem val_step {b off n c t m d : Nat} {v : Value} (hm : m = n - 4 * t ∧ d = c - 4 * t) (h4 : 4 ≤ m) (hmd : m ≤ d)
    (hv : v = .slice (some ⟨b, off + 4 * t + 4, none⟩) (m - 4) (d - 4) ∨ (d = 4 ∧ v = .slice (some ⟨b, off + 4 * t, none⟩) (m - 4) 0)) :
    ∃ A, v = .slice A (n - 4 * (t + 1)) (c - 4 * (t + 1)) ∧ (4 * (t + 1) < n → A = some ⟨b, off + 4 * (t + 1), none⟩) := by
  obtain ⟨rfl, rfl⟩ := hm
  rcases hv with rfl | ⟨hd, rfl⟩
  · exact ⟨_, by congr 1 <;> omega, fun _ => by rw [show off + 4 * t + 4 = off + 4 * (t + 1) by omega]⟩
  · exact ⟨_, by congr 1 <;> omega, fun h => absurd h (by omega)⟩

set_option maxRecDepth 100000 in
set_option maxHeartbeats 4000000 in
theorem visit_inv (K : FuncId) (caps : Array Value) (eK : ∀ (args : Array Value) (w : World), (callFunc K args).run Try.prog w = .ok (.enter K args) w) (X Y : Int) (p q n c b off : Nat) (F : Nat → Nat) (S : Nat → Prop) (I : Nat → World → Prop) (w : World)
    (hn : n = 4 * (p * q)) (hn2 : n ≤ 65536) (hnc : n ≤ c) (hcm : c ≤ maxLen) (hp : 0 < p) (hq : 0 < q) (hp2 : p ≤ 256) (hq2 : q ≤ 256) (x1 : -1048576 ≤ X) (x2 : X ≤ 1048576) (y1 : -1048576 ≤ Y) (y2 : Y ≤ 1048576)
    (hb : b < w.heap.size) (hR : Rd w b off n F) (hSb : ¬ S b) (hS : ∀ k, S k → k < w.heap.size) (hI0 : ∀ w1, Below w.heap.size w w1 → I 0 w1) (hIs : ∀ j w1 w2, w.heap.size ≤ w1.heap.size → I j w1 → Below w.heap.size w1 w2 → I j w2)
    (hG : ∀ (i j : Nat) (w1 : World), i < p → j < q → KB S w w1 → I (p * j + i) w1 → Calls Try.prog K (#[.int .i64 (X + i), .int .i64 (Y + j), pix fun k => F (4 * (p * j + i) + k)] ++ caps) w1 fun e w2 => e = .returned (.tuple #[]) ∧ KB S w1 w2 ∧ I (p * j + i + 1) w2) :
    Calls Try.prog 54 #[frm X Y p q (some ⟨b, off, none⟩) n c, .func (.func K) #[] caps] w fun e w' => e = .returned (.tuple #[]) ∧ KB S w w' ∧ I (p * q) w' := by
  have HG := hid hG
  have HS := hid hS
  have HSB := hid hSb
  have HIS := hid hIs
  have HR := hid hR
  have HN := hid hn
  have HCM := hid hcm
  have hpq : 0 < p * q := Nat.mul_pos hp hq
  have HPQ := hid hpq
  have hz : VRel S I w X Y p q n c b off 0 (.slice (some ⟨b, off, none⟩) n c) (w.alloc (.cells #[.int .i64 X, .int .i64 Y, .int .i64 p, .int .i64 q, .slice (some ⟨b, off, none⟩) n c] 26)) :=
    ⟨⟨_, rfl, fun _ => rfl⟩, Blk.new_at _ _ _ rfl, .of_below ((Below.refl _ _).alloc (Nat.le_refl _) _), hI0 _ ((Below.refl _ _).alloc (Nat.le_refl _) _)⟩
  have HZ := hid hz
  clear hG hS hSb hI0 hIs hR hn hcm hpq hz
  go_enter Try.func54, Try.ntmps54
  go_wp2_with fail
  go_loopw [4, 5] (fun v i wr => ∃ j : Nat, j ≤ q ∧ i = .int .i64 (Y + j) ∧ VRel S I w X Y p q n c b off (p * j) v wr) (fun _ i _ => (Y + q - intOf i).toNat)
  case atStart => exact ⟨0, Nat.zero_le _, by simp, HZ.out⟩
  case round =>
    clear HZ
    obtain ⟨j, hj, rfl, hrel⟩ := hrel
    have HL := hid hrel
    have c0 := hrel.b0.cell 0
    have c1 := hrel.b0.cell 1
    have c2 := hrel.b0.cell 2
    have c3 := hrel.b0.cell 3
    simp at c0 c1 c2 c3
    clear hrel
    by_cases hjq : j < q
    · obtain ⟨wo, rfl⟩ : ∃ wo : World, wo = wr := ⟨_, rfl⟩
      go_wp2_with fail
      go_loopw [4, 6] (fun v i wr => ∃ i1 : Nat, i1 ≤ p ∧ i = .int .i64 (X + i1) ∧ VRel S I w X Y p q n c b off (p * j + i1) v wr) (fun _ i _ => (X + p - intOf i).toNat)
      case atStart => exact ⟨0, Nat.zero_le _, by simp, HL.out⟩
      case round =>
        clear HL c0 c1 c2 c3
        obtain ⟨i1, hi1, rfl, hrel⟩ := hrel
        have HL := hid hrel
        have c0 := hrel.b0.cell 0
        have c1 := hrel.b0.cell 1
        have c2 := hrel.b0.cell 2
        have c3 := hrel.b0.cell 3
        simp at c0 c1 c2 c3
        by_cases hip : i1 < p
        · have hlt := idx_lt hip hjq
          obtain ⟨t, ht⟩ : ∃ t, t = p * j + i1 := ⟨_, rfl⟩
          have HT := hid ht
          rw [← ht] at hrel HL hlt
          obtain ⟨A, rfl, hA⟩ := hrel.val
          have hn4 : 4 * t + 4 ≤ n := by have := HN.out; omega
          obtain rfl := hA (by omega)
          have hsrc : Src wr (some ⟨b, off + 4 * t, none⟩) (n - 4 * t) (fun k => F (4 * t + k)) := fun _ => ⟨b, off + 4 * t, rfl, Nat.lt_of_lt_of_le hb hrel.be.size, fun k hk => by
            have h1 := HR.out (4 * t + k) (by omega)
            have h2 : wr.heap[b]? = w.heap[b]? := hrel.be.block b hb HSB.out
            rw [World.cell?_of_block (w := w) (a := ⟨b, off + 4 * t + k, none⟩) h2, ← h1, Nat.add_assoc]⟩
          have HTK := hid (take_long (some ⟨b, off + 4 * t, none⟩) (n - 4 * t) (c - 4 * t) (fun k => F (4 * t + k)) wr (by omega) (by omega) (by have := HCM.out; omega) hsrc)
          have m1 : 4 ≤ n - 4 * t := by omega
          have m2 : n - 4 * t ≤ c - 4 * t := by omega
          clear ht hrel hA hsrc hlt hn4
          obtain ⟨m, hm⟩ : ∃ m, m = n - 4 * t := ⟨_, rfl⟩
          obtain ⟨d, hd⟩ : ∃ d, d = c - 4 * t := ⟨_, rfl⟩
          rw [← hm] at HTK m1 m2 ⊢
          rw [← hd] at HTK m2 ⊢
          have HM := hid (And.intro hm hd)
          clear hm hd
          go_wp2_with fail
          refine HTK.out.mono ?_
          rintro e w1 ⟨rfl, hb1⟩
          have px := pix_cells fun k => F (4 * t + k)
          have HB0 : RowKit.Hid (Blk w1 w.heap.size 26 #[.int .i64 X, .int .i64 Y, .int .i64 p, .int .i64 q, .slice (some ⟨b, off, none⟩) n c]) := HL.out.b0.below hb1 HL.out.b0.lt
          have HE1 := hid (HL.out.be.trans (.of_below hb1))
          have HI1 := hid (HIS.out t _ _ HL.out.be.size HL.out.inv (hb1.mono HL.out.be.size))
          clear hb1 HTK HL
          have HCL : RowKit.Hid (Calls Try.prog K (#[.int .i64 (X + i1), .int .i64 (Y + j), .agg (pixA fun k => F (4 * t + k))] ++ caps) (w1.alloc (.cells (pixA fun k => F (4 * t + k)) 47)) fun e w2 => e = .returned (.tuple #[]) ∧ KB S (w1.alloc (.cells (pixA fun k => F (4 * t + k)) 47)) w2 ∧ I (t + 1) w2) := by
            have h1 := HG.out i1 j (w1.alloc (.cells (pixA fun k => F (4 * t + k)) 47)) hip hjq (HE1.out.trans (.of_below ((Below.refl _ _).alloc (Nat.le_refl _) _)))
            rw [← HT.out] at h1
            exact h1 (HIS.out t _ _ HE1.out.size HI1.out ((Below.refl _ _).alloc HE1.out.size _))
          go_wp2_with fail
          all_goals
            refine HCL.out.mono ?_
            rintro e w2 ⟨rfl, hkb, hi2⟩
            have HE2 := hid ((HE1.out.trans (.of_below ((Below.refl _ _).alloc (Nat.le_refl _) _))).trans hkb)
            have HI2 := hid hi2
            have HB2 : RowKit.Hid (Blk w2 w.heap.size 26 #[.int .i64 X, .int .i64 Y, .int .i64 p, .int .i64 q, .slice (some ⟨b, off, none⟩) n c]) := (HB0.out.alloc _).kb hkb (fun h => by have := HS.out _ h; omega)
            clear hkb hi2 HCL
            go_wp2_with fail
            go_roundw
            case rel =>
              refine ⟨i1 + 1, by omega, by congr 1; omega, ?_⟩
              rw [show p * j + (i1 + 1) = t + 1 by have := HT.out; omega]
              refine ⟨?_, ?_, HE2.out, HI2.out⟩
              · first
                  | exact val_step HM.out m1 m2 (Or.inl rfl)
                  | exact val_step HM.out m1 m2 (Or.inr ⟨by omega, rfl⟩)
              · exact HB2.out
            case measure => simp [intOf]; omega
        · obtain rfl : i1 = p := by omega
          clear hrel
          go_wp2_with fail
          go_roundw
          case rel => exact ⟨j + 1, by omega, by congr 1; omega, by rw [Nat.mul_succ]; exact HL.out⟩
          case measure => simp [intOf]; omega
    · obtain rfl : j = q := by omega
      go_wp2_with fail
      go_end0
      exact ⟨rfl, HL.out.be, HL.out.inv⟩
end Go.Proofs.Ythoiiccecneefaa
