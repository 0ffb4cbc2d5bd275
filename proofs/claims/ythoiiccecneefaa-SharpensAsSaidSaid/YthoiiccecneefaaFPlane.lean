/-
  The singles of a channel, in the program and in the reference.
-/
import Derived.Test.YthoiiccecneefaaFCheck
namespace Go.Proofs.Ythoiiccecneefaa
open Go.RowKit

/-- The cells of a row of singles. -/
def rowL (G : Nat → Nat) (k : Nat) : List Value := (List.range k).map fun j => .float .f32 (G j)
theorem rowL_length (G : Nat → Nat) (k : Nat) : (rowL G k).length = k := by simp [rowL]
theorem rowL_succ (G : Nat → Nat) (k : Nat) : rowL G (k + 1) = rowL G k ++ [.float .f32 (G k)] := by simp [rowL, List.range_succ]
theorem rowL_get (G : Nat → Nat) (k i : Nat) (h : i < k) : (rowL G k)[i]? = some (.float .f32 (G i)) := by simp [rowL, h]

theorem Blk.grown {w w' : World} {g : Nat} {t : TypeId} {cs : Array Value} {row : Option Nat} (h : Blk w g t cs) (hb : w.grownBy w' row) (hg : some g ≠ row) : Blk w' g t cs := (hb.block g h.lt hg).trans h

/-- A new slice of singles that reads as G. -/
def Planed (w : World) (m : Nat) (G : Nat → Nat) (e : Ending) (w' : World) : Prop :=
  ∃ b c, e = .returned (.slice (some ⟨b, 0, none⟩) m c) ∧ m ≤ c ∧ c ≤ maxLen ∧ w.heap.size ≤ b ∧ b < w'.heap.size ∧ Rd w' b 0 m G ∧ Below w.heap.size w w'

theorem Planed.of_own {w w' : World} {base : Nat} {v : Value} {m : Nat} {G : Nat → Nat} (hm : 0 < m) (hbase : w.heap.size ≤ base) (h : w'.ownsRow base 40 1 v m (rowL G m)) (hb : Below w.heap.size w w') : Planed w m G (.returned v) w' := by
  rcases h.2 with ⟨rfl, hx⟩ | ⟨g, cap, cur, rfl, hbg, hg, hnc, hcm, hcs, htake⟩
  · exfalso
    have := rowL_length G m
    rw [hx] at this
    simp at this
    omega
  · refine ⟨g, cap, rfl, hnc, hcm, by omega, (Array.getElem?_eq_some_iff.1 hg).1, ?_, hb⟩
    intro i hi
    rw [Nat.zero_add, h.cellAt i (by omega), rowL_get G m i hi]

/-- A round of an append of one single. -/
theorem own_step {w1 : World} {base k : Nat} {G : Nat → Nat} {v' : Value} (h : w1.ownsRow base 40 1 v' (k + 1) (rowL G k ++ [.float .f32 (G k)])) : w1.ownsRow base 40 1 v' (k + 1) (rowL G (k + 1)) := by
  rw [rowL_succ]; exact h
theorem below_grown {B base : Nat} {a wr w1 : World} {v : Value} {e : TypeId} {size n : Nat} {xs : List Value} {o : Obj} (hb : Below B a wr) (hB : B ≤ wr.heap.size) (hbase : B ≤ base) (hown : wr.ownsRow base e size v n xs) (hg : (wr.alloc o).grownBy w1 v.ownBlock) : Below B a w1 :=
  (hb.alloc hB o).grown hg (by simp; omega) fun k hk => Nat.le_trans hbase (hown.lt k hk).1
theorem blk_grown {base g : Nat} {wr w1 : World} {v : Value} {e t : TypeId} {cs : Array Value} {size n : Nat} {xs : List Value} {o : Obj} (h : Blk wr g t cs) (hgb : g < base) (hown : wr.ownsRow base e size v n xs) (hg : (wr.alloc o).grownBy w1 v.ownBlock) : Blk w1 g t cs :=
  (h.alloc o).grown hg fun e => by have := (hown.lt g e.symm).1; omega

/-- The relation of a plane's loop. -/
def PlaneRel (w : World) (x y a b : Int) (A : Option Addr) (n c ch : Nat) (F : Nat → Nat) (k : Nat) (v : Value) (wr : World) : Prop :=
  wr.ownsRow (w.heap.size + 1) 40 1 v k (rowL (fun j => cl (F (ch + 4 * j))) k) ∧ Blk wr w.heap.size 26 #[.int .i64 x, .int .i64 y, .int .i64 a, .int .i64 b, .slice A n c] ∧ Below w.heap.size w wr

theorem PlaneRel.size {w : World} {x y a b : Int} {A : Option Addr} {n c ch : Nat} {F : Nat → Nat} {k : Nat} {v : Value} {wr : World} (h : PlaneRel w x y a b A n c ch F k v wr) : w.heap.size + 1 ≤ wr.heap.size := h.2.1.lt

theorem PlaneRel.step {w : World} {x y a b : Int} {A : Option Addr} {n c ch : Nat} {F : Nat → Nat} {k : Nat} {v v' : Value} {wr w1 : World} {o : Obj} (h : PlaneRel w x y a b A n c ch F k v wr)
    (ho : w1.ownsRow (w.heap.size + 1) 40 1 v' (k + 1) (rowL (fun j => cl (F (ch + 4 * j))) k ++ [.float .f32 (cl (F (ch + 4 * k)))])) (hg : (wr.alloc o).grownBy w1 v.ownBlock) : PlaneRel w x y a b A n c ch F (k + 1) v' w1 :=
  ⟨own_step ho, blk_grown h.2.1 (by omega) h.1 hg, below_grown h.2.2 (by have := h.size; omega) (by omega) h.1 hg⟩

end Go.Proofs.Ythoiiccecneefaa
