/-
  The singles of a channel, in the program and in the reference.
-/
import Derived.Test.YtcklpmjeimjgmaaFCheck
namespace Go.Proofs.Ytcklpmjeimjgmaa
open Go.RowKit

/-- The cells of a row of singles. -/
def rowL (G : Nat → Nat) (k : Nat) : List Value := (List.range k).map fun j => .float .f32 (G j)
theorem rowL_length (G : Nat → Nat) (k : Nat) : (rowL G k).length = k := by simp [rowL]
theorem rowL_succ (G : Nat → Nat) (k : Nat) : rowL G (k + 1) = rowL G k ++ [.float .f32 (G k)] := by simp [rowL, List.range_succ]
theorem rowL_get (G : Nat → Nat) (k i : Nat) (h : i < k) : (rowL G k)[i]? = some (.float .f32 (G i)) := by simp [rowL, h]

theorem Blk.grown {w w' : World} {g : Nat} {t : TypeId} {cs : Array Value} {row : Option Nat} (h : Blk w g t cs) (hb : w.grownBy w' row) (hg : some g ≠ row) : Blk w' g t cs := (hb.block g h.lt hg).trans h

/-- A new slice of singles that reads as G. -/
def Planed (w : World) (m : Nat) (G : Nat → Nat) (e : Ending) (w' : World) : Prop :=
  ∃ b c, e = .returned (.slice (some ⟨b, 0, none⟩) m c) ∧ m ≤ c ∧ c ≤ maxLen ∧ w.heap.size ≤ b ∧ b < w'.heap.size ∧ Rd w' b 0 m G ∧ Below w.heap.size w w'

theorem Planed.of_own {w w' : World} {base : Nat} {v : Value} {m : Nat} {G : Nat → Nat} (hm : 0 < m) (hbase : w.heap.size ≤ base) (h : w'.ownsRow base 27 1 v m (rowL G m)) (hb : Below w.heap.size w w') : Planed w m G (.returned v) w' := by
  rcases h.2 with ⟨rfl, hx⟩ | ⟨g, cap, cur, rfl, hbg, hg, hnc, hcm, hcs, htake⟩
  · exfalso
    have := rowL_length G m
    rw [hx] at this
    simp at this
    omega
  · refine ⟨g, cap, rfl, hnc, hcm, by omega, (Array.getElem?_eq_some_iff.1 hg).1, ?_, hb⟩
    intro i hi
    rw [Nat.zero_add, h.cellAt i (by omega), rowL_get G m i hi]

/-- A round of an append of one single. -/
theorem own_step {w1 : World} {base k : Nat} {G : Nat → Nat} {v' : Value} (h : w1.ownsRow base 27 1 v' (k + 1) (rowL G k ++ [.float .f32 (G k)])) : w1.ownsRow base 27 1 v' (k + 1) (rowL G (k + 1)) := by
  rw [rowL_succ]; exact h
theorem below_grown {B base : Nat} {a wr w1 : World} {v : Value} {e : TypeId} {size n : Nat} {xs : List Value} {o : Obj} (hb : Below B a wr) (hB : B ≤ wr.heap.size) (hbase : B ≤ base) (hown : wr.ownsRow base e size v n xs) (hg : (wr.alloc o).grownBy w1 v.ownBlock) : Below B a w1 :=
  (hb.alloc hB o).grown hg (by simp; omega) fun k hk => Nat.le_trans hbase (hown.lt k hk).1
theorem blk_grown {base g : Nat} {wr w1 : World} {v : Value} {e t : TypeId} {cs : Array Value} {size n : Nat} {xs : List Value} {o : Obj} (h : Blk wr g t cs) (hgb : g < base) (hown : wr.ownsRow base e size v n xs) (hg : (wr.alloc o).grownBy w1 v.ownBlock) : Blk w1 g t cs :=
  (h.alloc o).grown hg fun e => by have := (hown.lt g e.symm).1; omega

/-- The relation of a plane's loop. -/
def PlaneRel (w : World) (x y a b : Int) (A : Option Addr) (n c ch : Nat) (F : Nat → Nat) (k : Nat) (v : Value) (wr : World) : Prop :=
  wr.ownsRow (w.heap.size + 1) 27 1 v k (rowL (fun j => cl (F (ch + 4 * j))) k) ∧ Blk wr w.heap.size 26 #[.int .i64 x, .int .i64 y, .int .i64 a, .int .i64 b, .slice A n c] ∧ Below w.heap.size w wr

theorem PlaneRel.size {w : World} {x y a b : Int} {A : Option Addr} {n c ch : Nat} {F : Nat → Nat} {k : Nat} {v : Value} {wr : World} (h : PlaneRel w x y a b A n c ch F k v wr) : w.heap.size + 1 ≤ wr.heap.size := h.2.1.lt

theorem PlaneRel.step {w : World} {x y a b : Int} {A : Option Addr} {n c ch : Nat} {F : Nat → Nat} {k : Nat} {v v' : Value} {wr w1 : World} {o : Obj} (h : PlaneRel w x y a b A n c ch F k v wr)
    (ho : w1.ownsRow (w.heap.size + 1) 27 1 v' (k + 1) (rowL (fun j => cl (F (ch + 4 * j))) k ++ [.float .f32 (cl (F (ch + 4 * k)))])) (hg : (wr.alloc o).grownBy w1 v.ownBlock) : PlaneRel w x y a b A n c ch F (k + 1) v' w1 :=
  ⟨own_step ho, blk_grown h.2.1 (by omega) h.1 hg, below_grown h.2.2 (by have := h.size; omega) (by omega) h.1 hg⟩

set_option maxRecDepth 100000 in
set_option maxHeartbeats 1000000 in
theorem planer_any (x y a b : Int) (A : Option Addr) (n c ch m : Nat) (F : Nat → Nat) (w : World) (hm0 : 0 < m) (hm : n = 4 * m) (hm2 : m ≤ 16384) (hch : ch < 4) (hF : Src w A n F) :
    Calls Try.prog 134 #[frm x y a b A n c, .int .i64 ch] w (Planed w m fun j => cl (F (ch + 4 * j))) := by
  obtain ⟨ba, oa, rfl, hba, hR⟩ := hF (by omega)
  clear hF
  have HR := hid hR
  clear hR
  have HM := hid hm
  have n1 : n ≤ 65536 := by omega
  clear hm
  obtain ⟨i0, hi, hz0, hz1, hz2⟩ := info_parts info_f32
  go_enter Try.func134, Try.ntmps134
  go_wp2
  go_loopw [5, 6] (fun v i wr => ∃ k : Nat, k ≤ m ∧ i = .int .i64 (ch + 4 * k : Nat) ∧ PlaneRel w x y a b (some ⟨ba, oa, none⟩) n c ch F k v wr) (fun _ i _ => n + 4 - (intOf i).toNat)
  case atStart =>
    exact ⟨0, Nat.zero_le _, rfl, World.ownsRow_nil _ _ _ _, Blk.new_at _ _ _ rfl, (Below.refl _ _).alloc (Nat.le_refl _) _⟩
  case round =>
    obtain ⟨k, hk, rfl, hrel⟩ := hrel
    have HL := hid hrel
    have c4 := hrel.2.1.cell 4
    simp at c4
    obtain ⟨i, hi2⟩ : ∃ i, i = ch + 4 * k := ⟨_, rfl⟩
    rw [← hi2]
    have HI := hid hi2
    by_cases hlt : k < m
    · have l1 : i < n := by have := HM.out; omega
      have hsrc : wr.cell? ⟨ba, oa + i, none⟩ = some (.float .f32 (F i)) := by rw [hrel.2.2.cell (p := ⟨ba, oa + i, none⟩) hba]; exact HR.out _ l1
      have i4 : (i : Int) + 4 ≤ 65540 := by omega
      have i5 : (0 : Int) ≤ (i : Int) := by omega
      have hown := hrel.1
      clear hrel hi2
      go_wp2_with (first | (go_at_call 132; refine (fix_any _ _).mono ?_; rintro e w' ⟨rfl, rfl⟩) | (at_builtin; refine wpList_append_own _ rfl _ _ 24 rfl (w.heap.size + 1) 27 i0 (.float .f32 0) 1 4 Try.underlying24 hi hz0 hz1 hz2 rfl (by decide) _ _ _ rfl (hown.alloc _) ⟨wr.heap.size, 0, none⟩ 1 1 [.float .f32 (cl (F i))] rfl rfl ?c1 ?c2 ?c3 ?c4 ?c5 ?_))
      case c1 =>
        intro j u hj
        match j, hj with
        | 0, hj => simp at hj; subst hj; simp [Addr.add]
      case c2 => intro u hu; simp at hu; subst hu; rfl
      case c3 => unfold maxLen; omega
      case c4 => omega
      case c5 => have := HL.out.size; simp; omega
      intro v' w1 hown' hgrow _
      have R := HL.out.step (by rw [← HI.out]; exact hown') hgrow
      clear hown' hgrow hown hsrc c4
      go_wp2
      go_roundw
      case rel => exact ⟨k + 1, by omega, by have := HI.out; congr 1; omega, R⟩
      case measure => simp [intOf]; omega
    · have hkm : k = m := by omega
      have l1 : n ≤ i := by have := HM.out; omega
      clear hi2
      go_wp2
      go_ret
      subst hkm
      exact Planed.of_own hm0 (by omega) HL.out.1 HL.out.2.2
set_option maxRecDepth 100000 in
set_option maxHeartbeats 1000000 in
theorem planep_any (x y a b : Int) (A : Option Addr) (n c ch m : Nat) (F : Nat → Nat) (w : World) (hab : a * b = m) (hm0 : 0 < m) (hm : n = 4 * m) (hm2 : m ≤ 16384) (hch : ch < 4) (hF : Src w A n F) :
    Calls Try.prog 170 #[frm x y a b A n c, .int .i64 ch] w (Planed w m fun j => cl (F (ch + 4 * j))) := by
  obtain ⟨ba, oa, rfl, hba, hR⟩ := hF (by omega)
  clear hF
  have HR := hid hR
  clear hR
  have HM := hid hm
  have n1 : n ≤ 65536 := by omega
  clear hm
  obtain ⟨i0, hi, hz0, hz1, hz2⟩ := info_parts info_f32
  go_enter Try.func170, Try.ntmps170
  go_wp2_with (at_make; refine wpList_make_own _ rfl _ _ 24 rfl (w.heap.size + 1) 27 i0 (.float .f32 0) 1 Try.underlying24 hi hz0 hz1 .i64 .i64 _ m rfl rfl rfl (by rw [hz2]; omega) (by unfold maxLen; omega) (by simp) ?_)
  intro w0 hown0 hgrow0
  have hB0 : Blk w0 w.heap.size 26 #[.int .i64 x, .int .i64 y, .int .i64 a, .int .i64 b, .slice (some ⟨ba, oa, none⟩) n c] := (Blk.new_at _ _ _ rfl).grown hgrow0 (by simp)
  have hbel0 : Below w.heap.size w w0 := ((Below.refl _ _).alloc (Nat.le_refl _) _).grown hgrow0 (by simp) (by simp)
  clear hgrow0
  have HOWN := hid hown0
  have HBB := hid hB0
  have HBE := hid hbel0
  clear hown0 hB0 hbel0 hab
  go_wp2
  go_loopw [5, 6] (fun v i wr => ∃ k : Nat, k ≤ m ∧ i = .int .i64 (ch + 4 * k : Nat) ∧ PlaneRel w x y a b (some ⟨ba, oa, none⟩) n c ch F k v wr) (fun _ i _ => n + 4 - (intOf i).toNat)
  case atStart =>
    exact ⟨0, Nat.zero_le _, rfl, HOWN.out, HBB.out, HBE.out⟩
  case round =>
    clear HOWN HBB HBE
    obtain ⟨k, hk, rfl, hrel⟩ := hrel
    have HL := hid hrel
    have c4 := hrel.2.1.cell 4
    simp at c4
    obtain ⟨i, hi2⟩ : ∃ i, i = ch + 4 * k := ⟨_, rfl⟩
    rw [← hi2]
    have HI := hid hi2
    by_cases hlt : k < m
    · have l1 : i < n := by have := HM.out; omega
      have hsrc : wr.cell? ⟨ba, oa + i, none⟩ = some (.float .f32 (F i)) := by rw [hrel.2.2.cell (p := ⟨ba, oa + i, none⟩) hba]; exact HR.out _ l1
      have i4 : (i : Int) + 4 ≤ 65540 := by omega
      have i5 : (0 : Int) ≤ (i : Int) := by omega
      have hown := hrel.1
      clear hrel hi2
      go_wp2_with (first | (go_at_call 122; refine (clean_any _ _).mono ?_; rintro e w' ⟨rfl, rfl⟩) | (at_builtin; refine wpList_append_own _ rfl _ _ 24 rfl (w.heap.size + 1) 27 i0 (.float .f32 0) 1 4 Try.underlying24 hi hz0 hz1 hz2 rfl (by decide) _ _ _ rfl (hown.alloc _) ⟨wr.heap.size, 0, none⟩ 1 1 [.float .f32 (cl (F i))] rfl rfl ?c1 ?c2 ?c3 ?c4 ?c5 ?_))
      case c1 =>
        intro j u hj
        match j, hj with
        | 0, hj => simp at hj; subst hj; simp [Addr.add]
      case c2 => intro u hu; simp at hu; subst hu; rfl
      case c3 => unfold maxLen; omega
      case c4 => omega
      case c5 => have := HL.out.size; simp; omega
      intro v' w1 hown' hgrow _
      have R := HL.out.step (by rw [← HI.out]; exact hown') hgrow
      clear hown' hgrow hown hsrc c4
      go_wp2
      go_roundw
      case rel => exact ⟨k + 1, by omega, by have := HI.out; congr 1; omega, R⟩
      case measure => simp [intOf]; omega
    · have hkm : k = m := by omega
      have l1 : n ≤ i := by have := HM.out; omega
      clear hi2
      go_wp2
      go_ret
      subst hkm
      exact Planed.of_own hm0 (by omega) HL.out.1 HL.out.2.2
end Go.Proofs.Ytcklpmjeimjgmaa
