/-
  Cubes: the law of grey cubes.
-/
import Derived.Test.YthnbfllhmjpbjaaKTop
import Derived.Deep.AppendLies
namespace Go.Proofs.Ythnbfllhmjpbjaa
open Go.RowKit Go.Shelf
attribute [local go_sem] run_store_float

/-- The cells of a row of singles. -/
def rowL (G : Nat → Nat) (k : Nat) : List Value := (List.range k).map fun j => .float .f32 (G j)
theorem rowL_length (G : Nat → Nat) (k : Nat) : (rowL G k).length = k := by simp [rowL]
theorem rowL_succ (G : Nat → Nat) (k : Nat) : rowL G (k + 1) = rowL G k ++ [.float .f32 (G k)] := by simp [rowL, List.range_succ]
theorem rowL_get (G : Nat → Nat) (k i : Nat) (h : i < k) : (rowL G k)[i]? = some (.float .f32 (G i)) := by simp [rowL, h]
theorem rowL_3 (G : Nat → Nat) (k : Nat) : rowL G (k + 3) = rowL G k ++ [.float .f32 (G k), .float .f32 (G (k + 1)), .float .f32 (G (k + 2))] := by
  rw [show k + 3 = k + 1 + 1 + 1 from rfl, rowL_succ, rowL_succ, rowL_succ]; simp
theorem Blk.grown {w w' : World} {g : Nat} {t : TypeId} {cs : Array Value} {row : Option Nat} (h : Blk w g t cs) (hb : w.grownBy w' row) (hg : some g ≠ row) : Blk w' g t cs := (hb.block g h.lt hg).trans h
theorem below_grown {B base : Nat} {a wr w1 : World} {v : Value} {e : TypeId} {size n : Nat} {xs : List Value} {o : Obj} (hb : Below B a wr) (hB : B ≤ wr.heap.size) (hbase : B ≤ base) (hown : wr.ownsRow base e size v n xs) (hg : (wr.alloc o).grownBy w1 v.ownBlock) : Below B a w1 :=
  (hb.alloc hB o).grown hg (by simp; omega) fun k hk => Nat.le_trans hbase (hown.lt k hk).1
theorem blk_grown {base g : Nat} {wr w1 : World} {v : Value} {e t : TypeId} {cs : Array Value} {size n : Nat} {xs : List Value} {o : Obj} (h : Blk wr g t cs) (hgb : g < base) (hown : wr.ownsRow base e size v n xs) (hg : (wr.alloc o).grownBy w1 v.ownBlock) : Blk w1 g t cs :=
  (h.alloc o).grown hg fun e => by have := (hown.lt g e.symm).1; omega
/-- What a row that is owned reads as. -/
theorem src_own {w : World} {base : Nat} {v : Value} {m : Nat} {G : Nat → Nat} (hm : 0 < m) (h : w.ownsRow base 22 1 v m (rowL G m)) :
    ∃ b c, v = .slice (some ⟨b, 0, none⟩) m c ∧ m ≤ c ∧ base ≤ b ∧ Src w (some ⟨b, 0, none⟩) m G := by
  rcases h.2 with ⟨rfl, hx⟩ | ⟨g, cap, cur, rfl, hbg, hg, hnc, hcm, hcs, htake⟩
  · exfalso
    have := rowL_length G m
    rw [hx] at this
    simp at this
    omega
  · refine ⟨g, cap, rfl, hnc, hbg, Src.of_rd (fun i hi => ?_) (Array.getElem?_eq_some_iff.1 hg).1⟩
    rw [Nat.zero_add, h.cellAt i (by omega), rowL_get G m i hi]

/-- The relation of the loop that lays greys. -/
structure GRel (S : Int) (G : Nat → Nat) (w : World) (t : Nat) (v : Value) (wr : World) : Prop where
  own : wr.ownsRow (w.heap.size + 1) 22 1 v t (rowL G t)
  box : Blk wr w.heap.size 25 #[.int .i64 S, .float .f32 0, .float .f32 1065353216, v]
  be : Below w.heap.size w wr
theorem GRel.step {S : Int} {G : Nat → Nat} {w : World} {t g cap : Nat} {v : Value} {wr w1 : World} {o : Obj} (h : GRel S G w t v wr)
    (ho : w1.ownsRow (w.heap.size + 1) 22 1 (.slice (some ⟨g, 0, none⟩) (t + 3) cap) (t + 3) (rowL G t ++ [.float .f32 (G t), .float .f32 (G (t + 1)), .float .f32 (G (t + 2))])) (hg : (wr.alloc o).grownBy w1 v.ownBlock) :
    GRel S G w (t + 3) (.slice (some ⟨g, 0, none⟩) (t + 3) cap) (w1.setCell ⟨w.heap.size, 3, none⟩ (.slice (some ⟨g, 0, none⟩) (t + 3) cap)) := by
  have hs := h.box.lt
  refine ⟨ownsRow_setCell_below (by rw [rowL_3]; exact ho) (by simp) _, ?_, (below_grown h.be (by omega) (by omega) h.own hg).setCell (by simp) _⟩
  have := (blk_grown h.box (by omega) h.own hg).set_ 3 (.slice (some ⟨g, 0, none⟩) (t + 3) cap)
  simpa using this

theorem one_cl : cl 1065353216 = 1065353216 := by decide +kernel
/-- Greys by entries. -/
def greyF (F : Nat → Nat) (t : Nat) : Nat := F (t / 3)
theorem grey_same (F : Nat → Nat) (s i j k m : Nat) (hm : m < 3) : greyF F (eIx s i j k + m) = greyF F (eIx s i j k) := by
  unfold greyF eIx
  congr 1
  omega
theorem tetV_congr {e : Nat → Nat → Nat} {s t u i j : Nat} (h : ∀ m, e m i = e m j) : tetV e s t u i = tetV e s t u j := by
  unfold tetV; rw [h 0, h 1, h 2, h 3]
theorem lookC_lt {T p : Nat → Nat} {m : Nat} (hm : m < 3) : lookC T p m = if nan3 p = true then 2143289344 else T m := by unfold lookC; rw [if_pos hm]
theorem tet_grey (F p : Nat → Nat) (s L H m : Nat) (hm : m < 3) : tetP s L H (greyF F) p m = tetP s L H (greyF F) p 0 := by
  have h : ∀ a o r, corE s (greyF F) a o r m = corE s (greyF F) a o r 0 := fun a o r => by unfold corE; rw [grey_same _ _ _ _ _ _ hm, grey_same _ _ _ _ _ _ (by decide)]
  have h2 : ∀ a x, tetC s (greyF F) a x m = tetC s (greyF F) a x 0 := fun a x => tetV_congr fun r => h _ _ r
  unfold tetP
  rw [lookC_lt hm, lookC_lt (by decide), h2]
theorem lin_grey (F p : Nat → Nat) (s L H m : Nat) (hm : m < 3) : linP s L H (greyF F) p m = linP s L H (greyF F) p 0 := by
  have h : ∀ a r, linE s (greyF F) a r m = linE s (greyF F) a r 0 := fun a r => by unfold linE; rw [grey_same _ _ _ _ _ _ hm, grey_same _ _ _ _ _ _ (by decide)]
  have h2 : ∀ a x, linC s (greyF F) a x m = linC s (greyF F) a x 0 := fun a x => by simp only [linC, stg, h]
  unfold linP
  rw [lookC_lt hm, lookC_lt (by decide), h2]

theorem ok_grey {S : Int} {m : Nat} (h1 : 2 ≤ S) (h2 : S ≤ 5) (hm : S * S * S = (m : Int)) : CubOk S 0 1065353216 (3 * m) :=
  ⟨h1, by omega, by rw [Int.mul_assoc 3, Int.mul_assoc 3, hm]; simp, by decide +kernel, by decide +kernel, by decide +kernel, by decide +kernel, by decide +kernel⟩

theorem cube_s {S : Int} (h1 : 2 ≤ S) (h2 : S ≤ 5) : 4 ≤ S * S ∧ S * S ≤ 25 ∧ 8 ≤ S * S * S ∧ S * S * S ≤ 125 := by
  have : S = 2 ∨ S = 3 ∨ S = 4 ∨ S = 5 := by omega
  rcases this with rfl | rfl | rfl | rfl <;> decide

end Go.Proofs.Ythnbfllhmjpbjaa
