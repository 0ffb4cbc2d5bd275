/-
  The frame of what a function value makes of each pixel, in the program.
-/
import Derived.Test.YthoiiccecneefaaQVis
import Derived.Deep.DeepAppendRoom
import Derived.Deep.AppendLies
import Derived.Deep.RegionHeld3
namespace Go.Proofs.Ythoiiccecneefaa
open Go.RowKit Go.Shelf
attribute [local go_sem] run_store_float

/-- append within the capacity, as one step of a region that draws. -/
theorem step_append_spare {P : Program} {w : World} {ops : Array Oper} {o : Oper} {a : Act} {K : Act → World → Prop} {Q : Exit → Act → World → Prop} {E : Prop} (hgd : o.guard = none) (s x : Operand) (t : TypeId)
    (ho : o.op = .call { callee := .builtin .append, args := #[s, x], argTypes := #[t, t] })
    (base : Nat) (e : TypeId) (i : TypeInfo) (size : Nat) (ht : P.underlying t = some (.slice e)) (hi : P.info? e = some i) (hsize : i.size = size)
    (g n cap : Nat) (xs : List Value) (hs : a.eval s = .slice (some ⟨g, 0, none⟩) n cap) (hown : w.ownsRow base e size (.slice (some ⟨g, 0, none⟩) n cap) n xs)
    (ad : Addr) (m c : Nat) (news : List Value) (hx : a.eval x = .slice (some ad) m c) (hl : news.length = m * size) (hnews : ∀ j u, news[j]? = some u → w.cell? (ad.add j) = some u) (h1 : ∀ u ∈ news, u.oneCell' = true)
    (hroom : n + m ≤ cap)
    (h : ∀ w', w'.ownsRow base e size (.slice (some ⟨g, 0, none⟩) (n + m) cap) (n + m) (xs ++ news) → w.grownBy w' (some g) → K (a.put o.dst (.slice (some ⟨g, 0, none⟩) (n + m) cap)) w') :
    if Region.wanted o (yielded ops a.tmps) = true then Oper.wp P o a w K Q else E := by
  have hw : Region.wanted o (yielded ops a.tmps) = true := by simp [Region.wanted, hgd]
  rw [if_pos hw]
  exact wp_append_own_spare w s x t ho base e i size ht hi hsize g n cap xs hs hown ad m c news hx hl hnews h1 hroom h

/-- What a function value makes of the pixels of p * q places. -/
def PixMakes (K : FuncId) (caps : Array Value) (w : World) (X Y : Int) (p q : Nat) (F : Nat → Nat) (G : Nat → Nat → Nat → Nat) : Prop :=
  ∀ (i j : Nat) (w1 : World), i < p → j < q → Below w.heap.size w w1 → Calls Try.prog K (#[.int .i64 (X + i), .int .i64 (Y + j), pix fun k => F (4 * (p * j + i) + k)] ++ caps) w1 fun e w2 => e = .returned (pix (G i j)) ∧ Below w1.heap.size w1 w2

/-- What lies there behind t pixels. -/
structure EI (K : FuncId) (caps : Array Value) (G : Nat → Nat) (w : World) (X Y : Int) (p q n S R : Nat) (t : Nat) (wr : World) : Prop where
  own : wr.ownsRow (w.heap.size + 3) 40 1 (.slice (some ⟨S, 0, none⟩) (4 * t) n) (4 * t) (rowL G (4 * t))
  box : Blk wr R 26 #[.int .i64 X, .int .i64 Y, .int .i64 p, .int .i64 q, .slice (some ⟨S, 0, none⟩) (4 * t) n]
  fb : Blk wr (w.heap.size + 1) 106 #[.func (.func K) #[] caps]
  rb : Blk wr (w.heap.size + 2) 26 zfrm
  be : Below w.heap.size w wr
  ls : w.heap.size + 3 ≤ S
  lr : w.heap.size + 3 ≤ R
  ne : S ≠ R

theorem own_same {wr w1 : World} {base g n c : Nat} {e : TypeId} {size : Nat} {xs : List Value} (h : wr.ownsRow base e size (.slice (some ⟨g, 0, none⟩) n c) n xs) (hb : w1.heap[g]? = wr.heap[g]?) : w1.ownsRow base e size (.slice (some ⟨g, 0, none⟩) n c) n xs := by
  refine ⟨h.1, ?_⟩
  rcases h.2 with ⟨hx, hy⟩ | ⟨g', cap, cur, hv, hbg, hgg, rest⟩
  · exact .inl ⟨hx, hy⟩
  · cases hv
    exact .inr ⟨g, _, cur, rfl, hbg, by rw [hb]; exact hgg, rest⟩
theorem rowL_4 (G : Nat → Nat) (k : Nat) : rowL G (k + 4) = rowL G k ++ [.float .f32 (G k), .float .f32 (G (k + 1)), .float .f32 (G (k + 2)), .float .f32 (G (k + 3))] := by
  rw [rowL_succ, rowL_succ, rowL_succ, rowL_succ]; simp

section
variable {K : FuncId} {caps : Array Value} {G : Nat → Nat} {w wr w1 w2 : World} {X Y : Int} {p q n S R t : Nat}
theorem EI.at {B : Nat} (h : EI K caps G w X Y p q n S R t wr) (hS : S < B) (hR : R < B) (hw : w.heap.size + 3 ≤ B) (hb : Below B wr w1) : EI K caps G w X Y p q n S R t w1 :=
  ⟨own_same h.own (hb.block S hS), (hb.block R hR).trans h.box, (hb.block _ (by omega)).trans h.fb, (hb.block _ (by omega)).trans h.rb, h.be.trans (hb.mono (by omega)), h.ls, h.lr, h.ne⟩
theorem EI.lts (h : EI K caps G w X Y p q n S R t wr) : S < wr.heap.size ∧ w.heap.size + 3 ≤ wr.heap.size := by
  have h2 := h.box.lt
  have h3 := h.lr
  refine ⟨?_, by omega⟩
  rcases h.own.2 with ⟨hx, _⟩ | ⟨g', cap, cur, hv, hbg, hgg, rest⟩
  · cases hx
  · cases hv
    exact (Array.getElem?_eq_some_iff.1 hgg).1
theorem EI.below (h : EI K caps G w X Y p q n S R t wr) (hb : Below wr.heap.size wr w1) : EI K caps G w X Y p q n S R t w1 := h.at h.lts.1 h.box.lt h.lts.2 hb
/-- A pixel appended, and the slice laid into its box. -/
theorem EI.step (h : EI K caps G w X Y p q n S R t wr) (ho : w1.ownsRow (w.heap.size + 3) 40 1 (.slice (some ⟨S, 0, none⟩) (4 * t + 4) n) (4 * t + 4) (rowL G (4 * t) ++ [.float .f32 (G (4 * t)), .float .f32 (G (4 * t + 1)), .float .f32 (G (4 * t + 2)), .float .f32 (G (4 * t + 3))]))
    (hg : wr.grownBy w1 (some S)) : EI K caps G w X Y p q n S R (t + 1) (w1.setCell ⟨R, 4, none⟩ (.slice (some ⟨S, 0, none⟩) (4 * t + 4) n)) ∧ KB (fun k => k = S ∨ k = R) wr (w1.setCell ⟨R, 4, none⟩ (.slice (some ⟨S, 0, none⟩) (4 * t + 4) n)) := by
  have h1 := h.ls
  have h2 := h.lr
  have h3 := h.ne
  refine ⟨⟨?_, ?_, ?_, ?_, ?_, h1, h2, h3⟩, hg.os, hg.tape, hg.output, ?_, ?_⟩
  · rw [show 4 * (t + 1) = 4 * t + 4 by omega, rowL_4]
    exact own_same ho (Below.heap_setCell _ _ _ _ (fun e => h3 e))
  · have := (h.box.grown hg (by simpa using fun e => h3 e.symm)).set_ 4 (.slice (some ⟨S, 0, none⟩) (4 * t + 4) n)
    simpa [Nat.mul_add] using this
  · exact (h.fb.grown hg (by simp; omega)).far (by simp; omega) _
  · exact (h.rb.grown hg (by simp; omega)).far (by simp; omega) _
  · exact (h.be.grown hg h.be.size (fun k e => by cases e; omega)).setCell (by simp; omega) _
  · have := hg.size
    simpa [World.setCell] using this
  · intro k hk hne
    rw [Below.heap_setCell _ _ _ _ (fun e => hne (Or.inr e)), hg.block k hk (fun e => hne (Or.inl (by simpa using e)))]
end

set_option maxRecDepth 100000 in
set_option maxHeartbeats 4000000 in
theorem epx_step (K : FuncId) (caps : Array Value) (G : Nat → Nat) (P g : Nat → Nat) (x y : Int) (w : World) (X Y : Int) (p q n S R t : Nat) (w1 : World) (h : EI K caps G w X Y p q n S R t w1) (ht : 4 * t + 4 ≤ n) (hg : ∀ k, k < 4 → g k = G (4 * t + k))
    (hK : ∀ w2, Below w1.heap.size w1 w2 → Calls Try.prog K (#[.int .i64 x, .int .i64 y, pix P] ++ caps) w2 fun e w3 => e = .returned (pix g) ∧ Below w2.heap.size w2 w3) (eK : ∀ (args : Array Value) (w : World), (callFunc K args).run Try.prog w = .ok (.enter K args) w) :
    Calls Try.prog 117 #[.int .i64 x, .int .i64 y, pix P, .pointer (some ⟨w.heap.size + 1, 0, none⟩), .pointer (some ⟨R, 0, none⟩)] w1 fun e w' => e = .returned (.tuple #[]) ∧ KB (fun k => k = S ∨ k = R) w1 w' ∧ EI K caps G w X Y p q n S R (t + 1) w' := by
  have H := hid h
  have HG := hid hg
  have HK := hid (hK _ ((Below.refl _ _).alloc (Nat.le_refl _) (.cells (pixA P) 47)))
  have c1 := h.fb.cell 0
  have r4 := h.box.cell 4
  have lr := h.box.lt
  have lf := h.fb.lt
  simp at c1 r4
  obtain ⟨i0, hi, hz0, hz1, hz2⟩ := info_parts info_f32
  have hgx : pix g = .agg (pixA fun k => G (4 * t + k)) := by
    rw [pix_cells, hg 0 (by omega), hg 1 (by omega), hg 2 (by omega), hg 3 (by omega)]
  rw [hgx] at HK
  rw [pix_cells P] at HK ⊢
  clear h hg hK hgx
  go_enter Try.func117, Try.ntmps117
  go_wp2_with fail
  refine HK.out.mono ?_
  rintro e w2 ⟨rfl, hb2⟩
  have hbx : Blk w2 w1.heap.size 47 (pixA P) := (Blk.new_at _ _ _ rfl).below hb2 (by simp)
  have he2 : Below w1.heap.size w1 w2 := ((Below.refl _ _).alloc (Nat.le_refl _) _).trans (hb2.mono (by simp))
  have z0 := hbx.cell 0
  have z1 := hbx.cell 1
  have z2 := hbx.cell 2
  have z3 := hbx.cell 3
  have fz := fun i => hbx.frozen i
  simp at z0 z1 z2 z3
  have HBX := hid hbx
  have HE2 := hid he2
  clear hb2 hbx he2 HK c1 r4
  go_wp2_with fail
  obtain ⟨w3, hw3⟩ : ∃ w3, w3 = (((w2.setCell ⟨w1.heap.size, 0, none⟩ (.float .f32 (G (4 * t)))).setCell ⟨w1.heap.size, 1, none⟩ (.float .f32 (G (4 * t + 1)))).setCell ⟨w1.heap.size, 2, none⟩ (.float .f32 (G (4 * t + 2)))).setCell ⟨w1.heap.size, 3, none⟩ (.float .f32 (G (4 * t + 3))) := ⟨_, rfl⟩
  have B3 : Blk w3 w1.heap.size 47 (pixA fun k => G (4 * t + k)) := by rw [hw3]; exact HBX.out.set4 _ _ _ _
  have E3 : Below w1.heap.size w1 w3 := by rw [hw3]; exact (((HE2.out.setCell (by simp) _).setCell (by simp) _).setCell (by simp) _).setCell (by simp) _
  have H3 := H.out.below E3
  have hown := H3.own
  have l3 := H3.box.lt
  have r4 := H3.box.cell 4
  simp at r4
  try simp only [Nat.add_zero] at *
  rw [← hw3]
  have HE3 := hid E3
  have HH3 : RowKit.Hid (EI K caps G w X Y p q n S R t w3.drew) := H3.below (Below.refl _ _).drew
  have HB3 := hid B3
  clear hw3 B3 E3 H3 z0 z1 z2 z3 fz HBX HE2
  go_region_law (refine step_append_spare (by rfl) (.tmp 14) (.tmp 15) 24 (by rfl) (w.heap.size + 3) 40 i0 1 Try.underlying24 hi hz1 S (4 * t) n (rowL G (4 * t)) (by rfl) hown ⟨w1.heap.size, 0, none⟩ 4 4 [.float .f32 (G (4 * t)), .float .f32 (G (4 * t + 1)), .float .f32 (G (4 * t + 2)), .float .f32 (G (4 * t + 3))] (by rfl) (by rfl) (World.news_of_block HB3.out) (by intro u hu; simp at hu; rcases hu with rfl | rfl | rfl | rfl <;> rfl) (by omega) ?_; intro w4 hown4 hgrow4; have hbx4 := HH3.out.box.grown (show w3.drew.grownBy w4 (some S) from hgrow4) (by simpa using fun e => HH3.out.ne e.symm); have s4 := hbx4.cell 4; have fz4 := fun i => hbx4.frozen i; simp at s4; have HS := hid (HH3.out.step hown4 hgrow4); clear hbx4 hown4 hgrow4)
  all_goals
    go_wp2_with fail
    go_end0
    exact ⟨rfl, (KB.of_below HE3.out.drew).trans HS.out.2, HS.out.1⟩

theorem run_make_cap {P : Program} (t e : TypeId) (i : TypeInfo) (z : Value) (ht : P.underlying t = some (.slice e)) (hi : P.info? e = some i) (hz : i.zero = some z) (hsize : i.size = 1) (hz1 : z.cells = #[z])
    (kl kc : IntKind) (n : Nat) (hbytes : i.bytes * n ≤ 281474976710656) (h63 : n ≤ 9223372036854775807) (w : World) :
    (Instr.makeSlice t (.int kl 0) (.int kc (n : Int))).run P w = .ok (.slice (some ⟨w.heap.size, 0, none⟩) 0 n) (w.alloc (.cells (madeCells #[z] n) e)) := by
  have hb' : (i.bytes : Int) * (n : Int) ≤ 281474976710656 := by
    have h : ((i.bytes * n : Nat) : Int) ≤ 281474976710656 := by omega
    rwa [Int.natCast_mul] at h
  have hr := run_make (P := P) w t e i z ht hi hz kl kc 0 n (Int.le_refl _) (by omega) hb' (by omega)
  simp only [Int.toNat_natCast, Int.toNat_zero, hsize, Nat.mul_one, hz1] at hr
  exact hr

theorem own_made {w : World} {S base n : Nat} {z : Value} {e : TypeId} (h : w.heap[S]? = some (.cells (madeCells #[z] n) e (0, 0))) (hb : base ≤ S) (hn : n ≤ maxLen) : w.ownsRow base e 1 (.slice (some ⟨S, 0, none⟩) 0 n) 0 [] :=
  ⟨rfl, .inr ⟨S, n, _, rfl, hb, h, Nat.zero_le _, hn, by rw [size_madeCells, Nat.mul_one], rfl⟩⟩

theorem enters_epx (args : Array Value) (w : World) : (callFunc 117 args).run Try.prog w = .ok (.enter 117 args) w := enters_of Try.func117 (by kernel_rfl) rfl args w

set_option maxRecDepth 100000 in
set_option maxHeartbeats 4000000 in
theorem eachPixel_any (K : FuncId) (caps : Array Value) (eK : ∀ (args : Array Value) (w : World), (callFunc K args).run Try.prog w = .ok (.enter K args) w) (X Y : Int) (p q n c : Nat) (A : Option Addr) (F : Nat → Nat) (G : Nat → Nat → Nat → Nat) (w : World)
    (hn : n = 4 * (p * q)) (hn2 : n ≤ 65536) (hnc : n ≤ c) (hcm : c ≤ maxLen) (hp : 0 < p) (hq : 0 < q) (hp2 : p ≤ 256) (hq2 : q ≤ 256) (x1 : -1048576 ≤ X) (x2 : X ≤ 1048576) (y1 : -1048576 ≤ Y) (y2 : Y ≤ 1048576)
    (hF : Src w A n F) (hK : PixMakes K caps w X Y p q F G) :
    Calls Try.prog 72 #[frm X Y p q A n c, .func (.func K) #[] caps] w (Framed w X Y p q n (gI G p)) := by
  have hpq : 0 < p * q := Nat.mul_pos hp hq
  obtain ⟨b, off, rfl, hb, hR⟩ := hF (by omega)
  have HR := hid hR
  have HK := hid hK
  have HN := hid hn
  have hn0 : 0 < n := by omega
  clear hF hR hK
  obtain ⟨i0, hi, hz0, hz1, hz2⟩ := info_parts info_f32
  have hmk := run_make_cap (P := Try.prog) 24 40 i0 (.float .f32 0) Try.underlying24 hi hz0 hz1 rfl .i64 .i64 n (by rw [hz2]; omega) (by omega)
  have hmf : ∀ (fn : Fn) (first cap : Array Value) (w : World), (Instr.makeFunc fn first cap).run Try.prog w = .ok (.func fn first cap) w := fun _ _ _ _ => rfl
  clear hn hpq
  go_enter Try.func72, Try.ntmps72
  go_wp2_with fail
  obtain ⟨wb, hwb⟩ : ∃ wb, wb = ((w.alloc (.cells #[.int .i64 X, .int .i64 Y, .int .i64 p, .int .i64 q, .slice (some ⟨b, off, none⟩) n c] 26)).alloc (.cells #[.func (.func K) #[] caps] 106)).alloc (.cells zfrm 26) := ⟨_, rfl⟩
  have b0 : Blk wb w.heap.size 26 #[.int .i64 X, .int .i64 Y, .int .i64 p, .int .i64 q, .slice (some ⟨b, off, none⟩) n c] := by rw [hwb]; exact ((Blk.new_at _ _ _ rfl).alloc _).alloc _
  have b1 : Blk wb (w.heap.size + 1) 106 #[.func (.func K) #[] caps] := by rw [hwb]; exact (Blk.new_at _ _ _ (by simp)).alloc _
  have b2 : Blk wb (w.heap.size + 2) 26 zfrm := by rw [hwb]; exact Blk.new_at _ _ _ (by simp)
  have hbe : Below w.heap.size w wb := by rw [hwb]; exact (((Below.refl _ _).alloc (Nat.le_refl _) _).alloc (by simp) _).alloc (by simp; omega) _
  rw [← hwb]
  have e0 := b0.cell 0
  have e1 := b0.cell 1
  have e2 := b0.cell 2
  have e3 := b0.cell 3
  have e4 := b0.cell 4
  simp at e0 e1 e2 e3 e4
  have HB0 := hid b0
  have HB1 := hid b1
  have HB2 := hid b2
  have HBE := hid hbe
  clear b0 b1 b2 hbe hwb
  go_region_held3 (fun w' => w'.cell? ⟨w.heap.size, 0, none⟩ = some (.int .i64 X) ∧ w'.cell? ⟨w.heap.size, 1, none⟩ = some (.int .i64 Y) ∧ w'.cell? ⟨w.heap.size, 2, none⟩ = some (.int .i64 p) ∧ w'.cell? ⟨w.heap.size, 3, none⟩ = some (.int .i64 q) ∧ w'.cell? ⟨w.heap.size, 4, none⟩ = some (.slice (some ⟨b, off, none⟩) n c)) (go_keep) (fail)
  all_goals
    rename_i hH
    clear hH e0 e1 e2 e3 e4
    generalize hwz : World.drew _ = wz
    have hb0z : Blk wz w.heap.size 26 #[.int .i64 X, .int .i64 Y, .int .i64 p, .int .i64 q, .slice (some ⟨b, off, none⟩) n c] := by
      subst hwz
      exact (HB0.out.alloc _).alloc _
    have ls := HB2.out.lt
    first
      | (have hz : EI K caps (gI G p) w X Y p q n wb.heap.size (wb.heap.size + 1) 0 wz := by
           subst hwz
           exact ⟨own_made ((Blk.new_at _ _ _ rfl).alloc _) (by omega) (by unfold maxLen; omega), Blk.new_at _ _ _ (by simp), (HB1.out.alloc _).alloc _, (HB2.out.alloc _).alloc _, ((HBE.out.alloc HBE.out.size _).alloc (by have := HBE.out.size; simp; omega) _).drew, by omega, by omega, by omega⟩
         generalize wb.heap.size + 1 = R at *
         generalize wb.heap.size = S at *)
      | (have hz : EI K caps (gI G p) w X Y p q n (wb.heap.size + 1) wb.heap.size 0 wz := by
           subst hwz
           exact ⟨own_made (Blk.new_at _ _ _ (by simp)) (by omega) (by unfold maxLen; omega), (Blk.new_at _ _ _ rfl).alloc _, (HB1.out.alloc _).alloc _, (HB2.out.alloc _).alloc _, ((HBE.out.alloc HBE.out.size _).alloc (by have := HBE.out.size; simp; omega) _).drew, by omega, by omega, by omega⟩
         generalize wb.heap.size + 1 = S at *
         generalize wb.heap.size = R at *)
    have hv := visit_inv 117 #[.pointer (some ⟨w.heap.size + 1, 0, none⟩), .pointer (some ⟨R, 0, none⟩)] enters_epx X Y p q n c b off F (fun k => k = S ∨ k = R) (fun t wr => EI K caps (gI G p) w X Y p q n S R t wr) wz
      HN.out hn2 hnc hcm hp hq hp2 hq2 x1 x2 y1 y2 (Nat.lt_of_lt_of_le hb hz.be.size) (fun k hk => (hz.be.cell (p := ⟨b, off + k, none⟩) hb).trans (HR.out k hk)) (by have := hz.ls; have := hz.lr; omega) (by intro k hk; rcases hk with rfl | rfl; exact hz.lts.1; exact hz.box.lt)
      (fun w1 h1 => hz.below h1) (fun t w1 w2 _ h1 h2 => h1.at hz.lts.1 hz.box.lt hz.lts.2 h2)
      (fun i j w1 hi1 hj1 hkb hI => epx_step K caps (gI G p) (fun k => F (4 * (p * j + i) + k)) (G i j) (X + i) (Y + j) w X Y p q n S R (p * j + i) w1 hI (by have := idx_lt hi1 hj1; have := HN.out; omega) (fun k hk => (gI_at G hi1 hk).symm) (fun w2 h2 => HK.out i j w2 hi1 hj1 (below_to hI.be h2)) eK)
    have HV := hid hv
    have f0 := hb0z.cell 0
    have f1 := hb0z.cell 1
    have f2 := hb0z.cell 2
    have f3 := hb0z.cell 3
    have f4 := hb0z.cell 4
    simp at f0 f1 f2 f3 f4
    clear hz hv hb0z hwz hmk
    go_wp2_with fail
    refine HV.out.mono ?_
    rintro e w4 ⟨rfl, _, hI⟩
    have HI := hid hI
    have g0 := hI.box.cell 0
    have g1 := hI.box.cell 1
    have g2 := hI.box.cell 2
    have g3 := hI.box.cell 3
    have g4 := hI.box.cell 4
    have z0 := hI.rb.cell 0
    have z1 := hI.rb.cell 1
    have z2 := hI.rb.cell 2
    have z3 := hI.rb.cell 3
    have z4 := hI.rb.cell 4
    have fz := fun i => hI.rb.frozen i
    have hN4 : 4 * (p * q) = n := HN.out.symm
    rw [hN4] at g4
    simp at g0 g1 g2 g3 g4 z0 z1 z2 z3 z4
    have HBK := hid (hI.rb.set5 (.int .i64 X) (.int .i64 Y) (.int .i64 p) (.int .i64 q) (.slice (some ⟨S, 0, none⟩) n n))
    clear hI HV f0 f1 f2 f3 f4
    go_wp2_with fail
    refine bodyPost_ret (v := frm X Y p q (some ⟨S, 0, none⟩) n n) (results_cell_row rfl _ _ _ _ _ _ _ rfl HBK.out Try.underlying26 rfl (by kernel_rfl)) rfl ?_
    have hown := HI.out.own
    rw [hN4] at hown
    obtain ⟨b', c', he, q1, q2, q3, q4, q5, q6⟩ := Planed.of_own (w := w) hn0 (by omega) hown HI.out.be
    simp at he
    obtain ⟨rfl, rfl⟩ := he
    have hls := HI.out.ls
    exact ⟨S, n, rfl, q1, q2, q3, by rw [size_set5]; exact q4, q5.far5 (by omega) _ _ _ _ _, below_set5 q6 (by omega) _ _ _ _ _⟩
end Go.Proofs.Ythoiiccecneefaa
