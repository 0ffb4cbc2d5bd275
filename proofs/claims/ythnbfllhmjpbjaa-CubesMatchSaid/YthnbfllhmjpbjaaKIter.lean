/-
  Cubes: the iterator over the places of all entries, in the program.
-/
import Derived.RangeFuncNested
import Derived.RangeFuncBound
import Derived.RangeFuncCalls
import Derived.RangeFuncLeaves
import Derived.RangeFuncBox
import Derived.Shelf.Abstract
import Derived.WalkKit
import Derived.OwnWalkIn
import Derived.TacticsInMore
import Derived.LoopNIn
import Derived.LoopIn
import Derived.Test.YthnbfllhmjpbjaaKLeaf
namespace Go.Proofs.Ythnbfllhmjpbjaa
open Go.RowKit Go.Shelf
attribute [local go_sem] Oper.semAt_some

/-- What has come when k rounds are over: f 0, .., f (k - 1). -/
def upto {α : Type} (f : Nat → α) (k : Nat) : List α := (List.range k).map f
theorem upto_succ {α : Type} (f : Nat → α) (k : Nat) : upto f (k + 1) = upto f k ++ [f k] := by simp [upto, List.range_succ]
theorem upto_length {α : Type} (f : Nat → α) (k : Nat) : (upto f k).length = k := by simp [upto]
theorem upto_prefix {α : Type} (f : Nat → α) {k n : Nat} (h : k ≤ n) : upto f k <+: upto f n := by
  obtain ⟨d, rfl⟩ := Nat.exists_eq_add_of_le h
  induction d with
  | zero => exact List.prefix_refl _
  | succ d ih =>
    rw [show k + (d + 1) = (k + d) + 1 by omega, upto_succ]
    exact (ih (by omega)).trans (List.prefix_append _ _)

/-- The place of the entry with the number t, of m a side. -/
def plc (m t : Nat) : Nat × Nat × Nat := (t % m, t / m % m, t / (m * m))
theorem plc_at {m i j k : Nat} (hi : i < m) (hj : j < m) : plc m ((k * m + j) * m + i) = (i, j, k) := by
  have h0 : 0 < m := by omega
  have e1 : ((k * m + j) * m + i) / m = k * m + j := by
    rw [Nat.mul_comm, Nat.mul_add_div h0, Nat.div_eq_of_lt hi, Nat.add_zero]
  have e2 : (k * m + j) / m = k := by
    rw [Nat.mul_comm, Nat.mul_add_div h0, Nat.div_eq_of_lt hj, Nat.add_zero]
  unfold plc
  rw [← Nat.div_div_eq_div_mul, e1, e2]
  refine Prod.ext ?_ (Prod.ext ?_ rfl)
  · show ((k * m + j) * m + i) % m = i
    rw [Nat.mul_comm, Nat.mul_add_mod, Nat.mod_eq_of_lt hi]
  · show (k * m + j) % m = j
    rw [Nat.mul_comm, Nat.mul_add_mod, Nat.mod_eq_of_lt hj]

theorem plc_lt {m i j k : Nat} (hk : k < m) (hj : j < m) (hi : i < m) : (k * m + j) * m + i < m * m * m := by
  have h1 : k * m + j < m * m := by
    have : k * m + m ≤ m * m := by rw [← Nat.succ_mul]; exact Nat.mul_le_mul_right _ hk
    omega
  have h2 : (k * m + j) * m + m ≤ m * m * m := by rw [← Nat.succ_mul]; exact Nat.mul_le_mul_right _ h1
  omega

/-- The number t, among those below m * m * m. -/
def plf (m : Nat) (h : 0 < m * m * m) (t : Nat) : Fin (m * m * m) := ⟨t % (m * m * m), Nat.mod_lt _ h⟩

abbrev ijkP (x : Nat × Nat × Nat) : Value := ijk (x.1 : Int) (x.2.1 : Int) (x.2.2 : Int)

set_option maxRecDepth 100000 in
set_option maxHeartbeats 4000000 in
theorem places1_in (F : Fence) (n : Nat) (hf : F.fn 135) (hro : F.round = none) (hn : 1 ≤ n) (l Bs m : Nat) (hm : m ≤ 17) (Kp : World → World → Prop)
    (hKc : ∀ (A B : World) (v : Value), Kp A B → A.cell? ⟨Bs, 0, none⟩ = some v → B.cell? ⟨Bs, 0, none⟩ = some v) (hN : 0 < m * m * m) (J Jx : List (Fin (m * m * m)) → World → Prop)
    (hY : ∀ pre x W, J pre W → pre.length < m * m * m → YieldAt F (n - 1) Try.prog l #[ijkP (plc m x.1)] W fun e W' =>
      (e = .returned (.bool true) ∧ J (pre ++ [x]) W' ∧ Kp W W') ∨ (e = .returned (.bool false) ∧ Jx (pre ++ [x]) W'))
    (W : World) (hBs : W.cell? ⟨Bs, 0, none⟩ = some (.int .i64 m)) (h0 : J [] W) :
    CallsIn F n Try.prog 135 #[.func (.yield l) #[] #[], .pointer (some ⟨Bs, 0, none⟩)] W fun e W' => (∃ v, e = .returned v) ∧
      ((∃ ys, ys = upto (plf m hN) (m * m * m) ∧ J ys W') ∨ (∃ pre, (∃ k, k ≤ m * m * m ∧ pre = upto (plf m hN) k) ∧ Jx pre W')) := by
  refine callsIn_of_wp Try.func135 rfl hf ?_ hro
  simp only [Try.ntmps135, List.size_toArray, List.length_cons, List.length_nil, Nat.reduceAdd, Nat.reduceSub, Array.replicate_succ, Array.replicate_zero, List.push_toArray, List.append_toArray, List.nil_append, List.cons_append]
  gi_wp2
  gi_loopw [7] (fun v wr => ∃ k : Nat, k ≤ m ∧ v = .int .i64 k ∧ J (upto (plf m hN) (k * m * m)) wr ∧ wr.cell? ⟨Bs, 0, none⟩ = some (.int .i64 m))
    (fun v _ => m - (intOf v).toNat)
  case atStart => exact ⟨0, Nat.zero_le _, rfl, by simpa [upto] using h0, hBs⟩
  case round =>
    obtain ⟨k, hk, rfl, hJ1, hB1⟩ := hrel
    by_cases hlt : k < m
    · gi_wp2
      gi_loopw [11] (fun v wr => ∃ j : Nat, j ≤ m ∧ v = .int .i64 j ∧ J (upto (plf m hN) ((k * m + j) * m)) wr ∧ wr.cell? ⟨Bs, 0, none⟩ = some (.int .i64 m))
        (fun v _ => m - (intOf v).toNat)
      case atStart => exact ⟨0, Nat.zero_le _, rfl, by simpa using hJ1, hB1⟩
      case round =>
        obtain ⟨j, hj, rfl, hJ2, hB2⟩ := hrel
        by_cases hlj : j < m
        · gi_wp2
          gi_loopw [15] (fun v wr => ∃ i : Nat, i ≤ m ∧ v = .int .i64 i ∧ J (upto (plf m hN) ((k * m + j) * m + i)) wr ∧ wr.cell? ⟨Bs, 0, none⟩ = some (.int .i64 m))
            (fun v _ => m - (intOf v).toNat)
          case atStart => exact ⟨0, Nat.zero_le _, rfl, by simpa using hJ2, hB2⟩
          case round =>
            obtain ⟨i, hi, rfl, hJ3, hB3⟩ := hrel
            by_cases hli : i < m
            · have hlt3 : (k * m + j) * m + i < m * m * m := plc_lt hlt hlj hli
              obtain ⟨fn, tmps, assign, body, hy, hR⟩ := hY _ (plf m hN ((k * m + j) * m + i)) _ hJ3 (by rw [upto_length]; exact hlt3)
              have ex : plc m (plf m hN ((k * m + j) * m + i)).1 = (i, j, k) := by
                show plc m (((k * m + j) * m + i) % (m * m * m)) = _
                rw [Nat.mod_eq_of_lt hlt3, plc_at hli hlj]
              rw [ex] at hy
              clear ex
              gi_wp2
              refine hR.mono ?_
              rintro e W3 (⟨rfl, hJ4, hk4⟩ | ⟨rfl, hJx4⟩)
              · gi_wp2
                go_roundw
                case rel => exact ⟨i + 1, by omega, by simp, by rw [← Nat.add_assoc, upto_succ]; exact hJ4, hKc _ _ _ hk4 hB3⟩
                case measure => simp [intOf]; omega
              · gi_wp2
                refine bodyPost_ret (results_none rfl _ _ _) rfl ?_
                exact ⟨⟨_, rfl⟩, .inr ⟨_, ⟨(k * m + j) * m + i + 1, hlt3, by rw [upto_succ]⟩, hJx4⟩⟩
            · obtain rfl : i = m := by omega
              gi_wp2
              go_roundw
              case rel => exact ⟨j + 1, by omega, by simp, by rw [show (k * i + (j + 1)) * i = (k * i + j) * i + i by rw [← Nat.add_assoc, Nat.add_mul, Nat.one_mul]]; exact hJ3, hB3⟩
              case measure => simp [intOf]; omega
        · obtain rfl : j = m := by omega
          gi_wp2
          go_roundw
          case rel => exact ⟨k + 1, by omega, by simp, by rw [show (k + 1) * j * j = (k * j + j) * j by rw [Nat.add_mul k 1 j, Nat.one_mul]]; exact hJ2, hB2⟩
          case measure => simp [intOf]; omega
    · obtain rfl : k = m := by omega
      gi_wp2
      go_end0
      exact ⟨⟨_, rfl⟩, .inl ⟨_, rfl, hJ1⟩⟩

end Go.Proofs.Ythnbfllhmjpbjaa
