/-
  build: the frame of what a function value says of each channel of each pixel.
-/
import Derived.Test.YtjlghjblpbckfaaFPlane
import Derived.Shelf.Abstract
import Derived.Deep.AppendLies
namespace Go.Proofs.Ytjlghjblpbckfaa
open Go.RowKit Go.Shelf

/-- The index of a channel of a pixel, taken apart. -/
def gI (G : Nat → Nat → Nat → Nat) (p t : Nat) : Nat := G (t / 4 % p) (t / 4 / p) (t % 4)
theorem gI_at (G : Nat → Nat → Nat → Nat) {p i j k : Nat} (hi : i < p) (hk : k < 4) : gI G p (4 * (p * j + i) + k) = G i j k := by
  have e1 : (4 * (p * j + i) + k) / 4 = p * j + i := by omega
  have e2 : (4 * (p * j + i) + k) % 4 = k := by omega
  unfold gI
  rw [e1, e2, Nat.mul_add_mod, Nat.mod_eq_of_lt hi, Nat.mul_add_div (by omega), Nat.div_eq_of_lt hi, Nat.add_zero]
theorem idx_lt {p q i j : Nat} (hi : i < p) (hj : j < q) : p * j + i < p * q := by
  have h : p * (j + 1) ≤ p * q := Nat.mul_le_mul_left p hj
  rw [Nat.mul_succ] at h
  omega

/-- A call gave a single whose Clean is r, and turned nothing that was there. -/
def Gave (w1 : World) (r : Nat) (e : Ending) (w2 : World) : Prop := ∃ v, e = .returned (.float .f32 v) ∧ cl v = r ∧ Below w1.heap.size w1 w2
/-- What a function value says of the channels of the pixels of p * q places. -/
def Gives (K : FuncId) (caps : Array Value) (w : World) (X Y : Int) (p q : Nat) (G : Nat → Nat → Nat → Nat) : Prop :=
  ∀ (i j k : Nat) (w1 : World), i < p → j < q → k < 4 → Below w.heap.size w w1 → Calls Try.prog K (#[.int .i64 (X + i), .int .i64 (Y + j), .int .i64 k] ++ caps) w1 (Gave w1 (G i j k))

/-- A new frame that reads as F. -/
def Framed (w : World) (X Y : Int) (p q m : Nat) (F : Nat → Nat) (e : Ending) (w' : World) : Prop :=
  ∃ b c, e = .returned (frm X Y p q (some ⟨b, 0, none⟩) m c) ∧ m ≤ c ∧ c ≤ maxLen ∧ w.heap.size ≤ b ∧ b < w'.heap.size ∧ Rd w' b 0 m F ∧ Below w.heap.size w w'

abbrev zfrm : Array Value := #[.int .i64 0, .int .i64 0, .int .i64 0, .int .i64 0, .slice none 0 0]

def BRel (w : World) (X Y : Int) (p q : Nat) (F : Nat → Nat) (t : Nat) (v : Value) (wr : World) : Prop :=
  wr.ownsRow (w.heap.size + 2) 40 1 v t (rowL F t) ∧ Blk wr w.heap.size 23 #[.int .i64 X, .int .i64 Y, .int .i64 p, .int .i64 q] ∧ Blk wr (w.heap.size + 1) 39 zfrm ∧ Below w.heap.size w wr

section
variable {w : World} {X Y : Int} {p q : Nat} {F : Nat → Nat} {t : Nat} {v v' : Value} {wr w1 w2 : World}
theorem BRel.size (h : BRel w X Y p q F t v wr) : w.heap.size + 2 ≤ wr.heap.size := h.2.2.1.lt
theorem own_below {base : Nat} {e : TypeId} {size n : Nat} {xs : List Value} (h : wr.ownsRow base e size v n xs) (hb : Below wr.heap.size wr w1) : w1.ownsRow base e size v n xs := by
  refine h.kept (row := none) ⟨hb.os, hb.tape, hb.output, hb.size, fun i hi _ => hb.block i hi⟩ ?_
  cases hv : v.ownBlock with
  | none => exact .inl rfl
  | some g => exact .inr (by simp)
theorem BRel.below (h : BRel w X Y p q F t v wr) (hb : Below wr.heap.size wr w1) : BRel w X Y p q F t v w1 :=
  ⟨own_below h.1 hb, h.2.1.below hb h.2.1.lt, h.2.2.1.below hb h.2.2.1.lt, h.2.2.2.trans (hb.mono h.2.2.2.size)⟩
theorem BRel.step {o : Obj} {r : Nat} (h : BRel w X Y p q F t v wr) (hr : r = F t)
    (ho : w1.ownsRow (w.heap.size + 2) 40 1 v' (t + 1) (rowL F t ++ [.float .f32 r])) (hg : (wr.alloc o).grownBy w1 v.ownBlock) : BRel w X Y p q F (t + 1) v' w1 :=
  ⟨by rw [rowL_succ, ← hr]; exact ho, blk_grown h.2.1 (by omega) h.1 hg, blk_grown h.2.2.1 (by omega) h.1 hg, below_grown h.2.2.2 (by have := h.size; omega) (by omega) h.1 hg⟩
end

set_option maxRecDepth 100000 in
set_option maxHeartbeats 2000000 in
theorem build_any (K : FuncId) (caps : Array Value) (eK : ∀ (args : Array Value) (w : World), (callFunc K args).run Try.prog w = .ok (.enter K args) w) (X Y : Int) (p q m : Nat) (G : Nat → Nat → Nat → Nat) (w : World)
    (hm : m = 4 * (p * q)) (hm2 : m ≤ 65536) (hp : 0 < p) (hq : 0 < q) (hp2 : p ≤ 256) (hq2 : q ≤ 256) (x1 : -1048576 ≤ X) (x2 : X ≤ 1048576) (y1 : -1048576 ≤ Y) (y2 : Y ≤ 1048576) (hG : Gives K caps w X Y p q G) :
    Calls Try.prog 63 #[reg X Y p q, .func (.func K) #[] caps] w (Framed w X Y p q m (gI G p)) := by
  have HG := hid hG
  have HM := hid hm
  have hm3 : 4 * (p : Int) * (q : Int) = (m : Int) := by rw [hm, Int.mul_assoc]; simp
  have hpq : 0 < p * q := Nat.mul_pos hp hq
  have HPQ := hid hpq
  have hm0 : 0 < m := by omega
  clear hG hm hpq
  obtain ⟨i0, hi, hz0, hz1, hz2⟩ := info_parts info_f32
  go_enter Try.func63, Try.ntmps63
  go_wp2_with (at_make; refine wpList_make_own _ rfl _ _ 37 rfl (w.heap.size + 2) 40 i0 (.float .f32 0) 1 Try.underlying37 hi hz0 hz1 .i64 .i64 _ m rfl rfl rfl (by rw [hz2]; omega) (by unfold maxLen; omega) (by simp) ?_)
  intro w0 hown0 hgrow0
  have b0 : BRel w X Y p q (gI G p) 0 (.slice (some ⟨w.heap.size + 1 + 1, 0, none⟩) 0 m) w0 :=
    ⟨hown0, ((Blk.new_at _ _ _ rfl).alloc _).grown hgrow0 (by simp), (Blk.new_at _ _ _ (by simp)).grown hgrow0 (by simp), (((Below.refl _ _).alloc (Nat.le_refl _) _).alloc (by simp) _).grown hgrow0 (by simp; omega) (by simp)⟩
  have c1 := b0.2.1.cell 1
  simp at c1
  have HB0 := hid b0
  clear hown0 hgrow0 hm3 b0
  go_wp2
  go_loopw [5, 6] (fun v i wr => ∃ j : Nat, j ≤ q ∧ i = .int .i64 (Y + j) ∧ BRel w X Y p q (gI G p) (4 * (p * j)) v wr) (fun _ i _ => (Y + q - intOf i).toNat)
  case atStart => exact ⟨0, Nat.zero_le _, by simp, HB0.out⟩
  case round =>
    clear HB0 c1
    obtain ⟨j, hj, rfl, hrel⟩ := hrel
    have HL := hid hrel
    have c0 := hrel.2.1.cell 0
    have c1 := hrel.2.1.cell 1
    have c2 := hrel.2.1.cell 2
    have c3 := hrel.2.1.cell 3
    simp at c0 c1 c2 c3
    clear hrel
    by_cases hjq : j < q
    · obtain ⟨wo, rfl⟩ : ∃ wo : World, wo = wr := ⟨_, rfl⟩
      go_wp2
      go_loopw [5, 7] (fun v i wr => ∃ i1 : Nat, i1 ≤ p ∧ i = .int .i64 (X + i1) ∧ BRel w X Y p q (gI G p) (4 * (p * j + i1)) v wr) (fun _ i _ => (X + p - intOf i).toNat)
      case atStart => exact ⟨0, Nat.zero_le _, by simp, HL.out⟩
      case round =>
        clear HL c0 c1 c2 c3
        obtain ⟨i1, hi1, rfl, hrel⟩ := hrel
        have HL := hid hrel
        have c0 := hrel.2.1.cell 0
        have c1 := hrel.2.1.cell 1
        have c2 := hrel.2.1.cell 2
        have c3 := hrel.2.1.cell 3
        simp at c0 c1 c2 c3
        clear hrel
        by_cases hip : i1 < p
        · obtain ⟨wo2, rfl⟩ : ∃ wo2 : World, wo2 = wr := ⟨_, rfl⟩
          go_wp2
          go_loopw [5, 38] (fun v i wr => ∃ k : Nat, k ≤ 4 ∧ i = .int .i64 k ∧ BRel w X Y p q (gI G p) (4 * (p * j + i1) + k) v wr) (fun _ i _ => 4 - (intOf i).toNat)
          case atStart => exact ⟨0, by omega, by simp, HL.out⟩
          case round =>
            clear HL c0 c1 c2 c3
            obtain ⟨k, hk, rfl, hrel⟩ := hrel
            have HL := hid hrel
            by_cases hk4 : k < 4
            · have HGI := hid (gI_at G (j := j) hip hk4)
              have hlt := idx_lt hip hjq
              obtain ⟨t, ht⟩ : ∃ t, t = 4 * (p * j + i1) + k := ⟨_, rfl⟩
              rw [← ht] at hrel
              have htm : t < m := by have := HM.out; omega
              have HT := hid ht
              have hcall := HG.out i1 j k wr hip hjq hk4 hrel.2.2.2
              have HC := hid hcall
              clear ht hlt hcall hrel
              go_wp2_with fail
              refine HC.out.mono ?_
              rintro e w1 ⟨r, rfl, hr, hb1⟩
              have hrel1 : BRel w X Y p q (gI G p) t u5 w1 := by
                have := HL.out.below hb1
                rw [← HT.out] at this
                exact this
              have HR := hid hr
              have HL1 := hid hrel1
              have hown := hrel1.1
              clear hr hb1 hrel1 HC
              go_wp2_with (first | (go_at_call 68; refine (clean_any _ _).mono ?_; rintro e w' ⟨rfl, rfl⟩) | (at_builtin; refine wpList_append_own _ rfl _ _ 37 rfl (w.heap.size + 2) 40 i0 (.float .f32 0) 1 4 Try.underlying37 hi hz0 hz1 hz2 rfl (by decide) _ _ _ rfl (hown.alloc _) ⟨w1.heap.size, 0, none⟩ 1 1 [.float .f32 (cl r)] rfl rfl ?c1 ?c2 ?c3 ?c4 ?c5 ?_))
              case c1 =>
                intro j u hj
                match j, hj with
                | 0, hj => simp at hj; subst hj; simp [Addr.add]
              case c2 => intro u hu; simp at hu; subst hu; rfl
              case c3 => unfold maxLen; omega
              case c4 => omega
              case c5 => have := HL1.out.size; simp; omega
              intro v' w2 hown' hgrow _
              have R := HL1.out.step (by rw [HR.out, HT.out, HGI.out]) hown' hgrow
              clear hown' hgrow hown
              go_wp2
              go_roundw
              case rel => exact ⟨k + 1, by omega, by go_num, by have := HT.out; rw [show 4 * (p * j + i1) + (k + 1) = t + 1 by omega]; exact R⟩
              case measure => simp [intOf]; omega
            · have hk5 : k = 4 := by omega
              subst hk5
              go_wp2
              go_roundw
              case rel => exact ⟨i1 + 1, by omega, by congr 1; omega, by rw [show 4 * (p * j + (i1 + 1)) = 4 * (p * j + i1) + 4 by omega]; exact HL.out⟩
              case measure => simp [intOf]; omega
        · have hip5 : i1 = p := by omega
          subst hip5
          go_wp2
          go_roundw
          case rel => exact ⟨j + 1, by omega, by congr 1; omega, by rw [Nat.mul_succ]; exact HL.out⟩
          case measure => simp [intOf]; omega
    · have hj5 : j = q := by omega
      subst hj5
      obtain ⟨g, cap, hv, hbg, hgl⟩ := HL.out.1.form (by have := HPQ.out; omega)
      subst hv
      have e4 : 4 * (p * j) = m := HM.out.symm
      have HL2 : RowKit.Hid (BRel w X Y p j (gI G p) m (.slice (some ⟨g, 0, none⟩) m cap) wr) := by rw [← e4]; exact HL.out
      rw [e4] at *
      have z0 := HL2.out.2.2.1.cell 0
      have z1 := HL2.out.2.2.1.cell 1
      have z2 := HL2.out.2.2.1.cell 2
      have z3 := HL2.out.2.2.1.cell 3
      have z4 := HL2.out.2.2.1.cell 4
      have f1 := fun i => HL2.out.2.2.1.frozen i
      simp at z0 z1 z2 z3 z4
      have hblk := HL2.out.2.2.1.set5 (.int .i64 X) (.int .i64 Y) (.int .i64 p) (.int .i64 j) (.slice (some ⟨g, 0, none⟩) m cap)
      have HBK := hid hblk
      clear hblk e4 HL
      go_wp2
      refine bodyPost_ret (v := frm X Y p j (some ⟨g, 0, none⟩) m cap) (results_cell_row rfl _ _ _ _ _ _ _ rfl HBK.out Try.underlying39 rfl (by kernel_rfl)) rfl ?_
      obtain ⟨b, c, he, q1, q2, q3, q4, q5, q6⟩ := Planed.of_own (w := w) hm0 (by omega) HL2.out.1 HL2.out.2.2.2
      simp at he
      obtain ⟨rfl, rfl⟩ := he
      exact ⟨g, cap, rfl, q1, q2, q3, by rw [size_set5]; exact q4, q5.far5 (by omega) _ _ _ _ _, below_set5 q6 (by omega) _ _ _ _ _⟩
end Go.Proofs.Ytjlghjblpbckfaa
