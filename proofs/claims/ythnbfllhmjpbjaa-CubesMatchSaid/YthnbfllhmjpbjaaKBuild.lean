/-
  Cubes: cubes built entry by entry, in the program.
-/
import Derived.Test.YthnbfllhmjpbjaaKIter
import Derived.Test.YthnbfllhmjpbjaaKRound
import Derived.Test.YthnbfllhmjpbjaaKGrey
import Derived.Maps.AppendAt
import Derived.Shelf.RegionOpen
namespace Go.Proofs.Ythnbfllhmjpbjaa
open Go.RowKit Go.Shelf
attribute [local go_sem] Oper.semAt_some run_store_float

theorem wrap64_id (n : Int) (h : -9223372036854775808 ≤ n ∧ n ≤ 9223372036854775807) : wrap64 n = n := by unfold wrap64; omega

theorem grownBy_setCell_at (W : World) (b i : Nat) (v : Value) : W.grownBy (W.setCell ⟨b, i, none⟩ v) (some b) :=
  ⟨rfl, rfl, rfl, (KeepsWalks.setCell W _ v).size, fun k _ hk => Below.heap_setCell _ _ _ k (fun e => hk (by rw [e]))⟩

/-- As below, and a block's first cell is as it was. -/
def KpB (n₀ Bs : Nat) (A B : World) : Prop := Below n₀ A B ∧ ∀ v, A.cell? ⟨Bs, 0, none⟩ = some v → B.cell? ⟨Bs, 0, none⟩ = some v
theorem KpB.trans {n₀ Bs : Nat} {A B C : World} (h : KpB n₀ Bs A B) (k : KpB n₀ Bs B C) : KpB n₀ Bs A C := ⟨h.1.trans k.1, fun v hv => k.2 v (h.2 v hv)⟩
theorem KpB.put {n₀ Bs : Nat} {w : World} (hn : n₀ ≤ w.heap.size) (W : World) (l : Nat) (o o' : Obj) (hl : w.heap.size ≤ l) (h : W.heap[l]? = some o) (hc : o.isCells = false) (hw : o.isWalk = false) : KpB n₀ Bs W (W.putObj l o') :=
  ⟨belowK_b hn W l o o' hl h hc hw, fun v hv => cell_kept hv (grownBy_putObj' W l o') (fun r e => by cases e; exact ⟨_, h, hc⟩)⟩

theorem places_in (F : Fence) (n : Nat) (hf : F.fn 102) (hro : F.round = none) (m : Nat) (w : World) :
    CallsIn F n Try.prog 102 #[.int .i64 m] w fun e w' => e = .returned (.func (.func 135) #[] #[.pointer (some ⟨w.heap.size, 0, none⟩)]) ∧ w' = w.alloc (.cells #[.int .i64 m] 3) := by
  refine callsIn_of_wp Try.func102 rfl hf ?_ hro
  simp only [Try.ntmps102, List.size_toArray, List.length_cons, List.length_nil, Nat.reduceAdd, Nat.reduceSub, Array.replicate_succ, Array.replicate_zero, List.push_toArray, List.append_toArray, List.nil_append, List.cons_append]
  gi_wp2
  go_ret
  exact ⟨rfl, rfl⟩

theorem places_stops (F : Fence) (n : Nat) (hf : F.fn 135) (hro : F.round = none) (hn : 1 ≤ n) (n₀ Bs m : Nat) (hm : m ≤ 17) (hN : 0 < m * m * m) (w : World) (hBs : Bs < w.heap.size) (hc : w.cell? ⟨Bs, 0, none⟩ = some (.int .i64 m)) :
    SeqStopsK F n Try.prog 135 #[.pointer (some ⟨Bs, 0, none⟩)] (fun x : Fin (m * m * m) => #[ijkP (plc m x.1)]) (KpB n₀ Bs) (fun ys => ys = upto (plf m hN) (m * m * m)) (fun pre => pre <+: upto (plf m hN) (m * m * m)) (m * m * m) w := fun l J Jx W hW _ _ hY h0 => by
  refine (places1_in F n hf hro hn l Bs m hm (KpB n₀ Bs) (fun A B v h hv => h.2 v hv) hN J Jx hY W ((hW.cell (p := ⟨Bs, 0, none⟩) hBs).trans hc) h0).mono ?_
  rintro e W' ⟨he, ⟨ys, rfl, hj⟩ | ⟨pre, ⟨k, hk, rfl⟩, hj⟩⟩
  · exact ⟨he, .inl ⟨_, rfl, hj⟩⟩
  · exact ⟨he, .inr ⟨_, upto_prefix _ hk, hj⟩⟩

/-- What a function value gives at each place: three singles. -/
def Gives3 (K : FuncId) (caps : Array Value) (m : Nat) (G : Nat → Nat) (w : World) : Prop :=
  ∀ (t : Nat) (w1 : World), t < m * m * m → Below w.heap.size w w1 → Calls Try.prog K (#[ijkP (plc m t)] ++ caps) w1 (Gave3 w1 fun i => G (3 * t + i))

/-- The first r of the three singles with the number t. -/
def triL (G : Nat → Nat) (t r : Nat) : List Value := (List.range r).map fun i => .float .f32 (G (3 * t + i))
theorem triL_succ (G : Nat → Nat) (t r : Nat) : triL G t (r + 1) = triL G t r ++ [.float .f32 (G (3 * t + r))] := by simp [triL, List.range_succ]
/-- The singles of the entries that have come. -/
def rowP {N : Nat} (G : Nat → Nat) (pre : List (Fin N)) : List Value := pre.flatMap fun x => triL G x.1 3
theorem rowP_snoc {N : Nat} (G : Nat → Nat) (pre : List (Fin N)) (x : Fin N) : rowP G (pre ++ [x]) = rowP G pre ++ triL G x.1 3 := by simp [rowP]
theorem rowP_upto (G : Nat → Nat) (m : Nat) (h : 0 < m * m * m) : ∀ k, k ≤ m * m * m → rowP G (upto (plf m h) k) = rowL G (3 * k)
  | 0, _ => by simp [rowP, upto, rowL]
  | k + 1, hk => by
    rw [upto_succ, rowP_snoc, rowP_upto G m h k (by omega), show 3 * (k + 1) = 3 * k + 3 by omega, rowL_3]
    have e : (plf m h k).1 = k := Nat.mod_eq_of_lt (by omega)
    rw [e]
    rfl

abbrev zcube : Array Value := #[.int .i64 0, .float .f32 0, .float .f32 0, .slice none 0 0]

/-- The relation of the loop that builds. -/
structure PRel (K : FuncId) (caps : Array Value) (m c L H : Nat) (w : World) (B t : Nat) (xs : List Value) (wr : World) : Prop where
  own : wr.ownsRow (w.heap.size + 2) 22 1 (.slice (some ⟨w.heap.size + 1 + 1, 0, none⟩) t c) t xs
  fb : Blk wr w.heap.size 122 #[.func (.func K) #[] caps]
  rb : Blk wr (w.heap.size + 1) 25 zcube
  box : Blk wr B 25 #[.int .i64 m, .float .f32 L, .float .f32 H, .slice (some ⟨w.heap.size + 1 + 1, 0, none⟩) t c]
  pb : Blk wr (B + 1) 3 #[.int .i64 m]
  be : Below w.heap.size w wr
  lo : w.heap.size + 1 + 1 + 1 ≤ B

theorem Blk.kept {w w' : World} {g : Nat} {t : TypeId} {cs : Array Value} {row : Option Nat} (h : Blk w g t cs) (hg : w.grownBy w' row) (hr : ∀ r, row = some r → ∃ o : Obj, w.heap[r]? = some o ∧ o.isCells = false) : Blk w' g t cs :=
  (hg.block g h.lt (fun e => by
    obtain ⟨o, ho, hc⟩ := hr g e.symm
    rw [show w.heap[g]? = _ from h] at ho
    cases ho; cases hc)).trans h
theorem row_kept {w w' : World} {base g c n : Nat} {e : TypeId} {size : Nat} {xs : List Value} {row : Option Nat} (h : w.ownsRow base e size (.slice (some ⟨g, 0, none⟩) n c) n xs) (hg : w.grownBy w' row) (hr : ∀ r, row = some r → ∃ o : Obj, w.heap[r]? = some o ∧ o.isCells = false) : w'.ownsRow base e size (.slice (some ⟨g, 0, none⟩) n c) n xs := by
  refine h.kept hg ?_
  rcases h.2 with ⟨hx, _⟩ | ⟨g', cap, cur, hv, _, hgb, _⟩
  · cases hx
  · refine .inr fun e' => ?_
    cases hv
    obtain ⟨o, ho, hc⟩ := hr g (by simpa [Value.ownBlock] using e'.symm)
    rw [hgb] at ho; cases ho; cases hc

section
variable {K : FuncId} {caps : Array Value} {m c L H B t : Nat} {w wr w1 : World} {xs : List Value}
theorem PRel.grown {row : Option Nat} (h : PRel K caps m c L H w B t xs wr) (hg : wr.grownBy w1 row) (hr : ∀ r, row = some r → w.heap.size ≤ r ∧ ∃ o : Obj, wr.heap[r]? = some o ∧ o.isCells = false) : PRel K caps m c L H w B t xs w1 :=
  ⟨row_kept h.own hg fun r e => (hr r e).2, h.fb.kept hg fun r e => (hr r e).2, h.rb.kept hg fun r e => (hr r e).2, h.box.kept hg fun r e => (hr r e).2, h.pb.kept hg fun r e => (hr r e).2,
    h.be.grown hg (by have := h.be.size; omega) fun k e => (hr k e).1, h.lo⟩
theorem grown_of_below {W W' : World} (h : Below W.heap.size W W') : W.grownBy W' none := ⟨h.os, h.tape, h.output, h.size, fun k hk _ => h.block k hk⟩
theorem keeps_of_below {W W' : World} (h : Below W.heap.size W W') : KeepsOthers W W' := .of_grownBy (grown_of_below h) (fun _ _ e => by cases e)
theorem PRel.below (h : PRel K caps m c L H w B t xs wr) (hb : Below wr.heap.size wr w1) : PRel K caps m c L H w B t xs w1 := h.grown (grown_of_below hb) (fun _ e => by cases e)
theorem PRel.alloc (h : PRel K caps m c L H w B t xs wr) (o : Obj) : PRel K caps m c L H w B t xs (wr.alloc o) := h.grown (World.grownBy_alloc wr o none) (fun _ e => by cases e)
theorem PRel.drew (h : PRel K caps m c L H w B t xs wr) : PRel K caps m c L H w B t xs wr.drew := h.grown (row := none) ⟨rfl, rfl, rfl, Nat.le_refl _, fun _ _ _ => rfl⟩ (fun _ e => by cases e)
theorem PRel.keeps {o : Obj} (h : PRel K caps m c L H w B t xs wr) (hg : (wr.alloc o).grownBy w1 (some (w.heap.size + 1 + 1))) (u : Value) : KeepsOthers wr (w1.setCell ⟨B, 3, none⟩ u) := by
  refine ((KeepsOthers.alloc wr o).trans (KeepsOthers.of_grownBy hg fun j ob ej hj => ?_)).trans (KeepsOthers.setCell _ _ _)
  rcases (h.own.alloc o).2 with ⟨hx, _⟩ | ⟨g, cap, cur, hv, _, hgb, _⟩
  · cases hx
  · cases hv
    cases ej
    rw [hgb] at hj; cases hj; rfl
theorem PRel.step {v : Value} {o : Obj} (h : PRel K caps m c L H w B t xs wr) (ho : w1.ownsRow (w.heap.size + 2) 22 1 (.slice (some ⟨w.heap.size + 1 + 1, 0, none⟩) (t + 1) c) (t + 1) (xs ++ [v]))
    (hg : (wr.alloc o).grownBy w1 (some (w.heap.size + 1 + 1))) : PRel K caps m c L H w B (t + 1) (xs ++ [v]) (w1.setCell ⟨B, 3, none⟩ (.slice (some ⟨w.heap.size + 1 + 1, 0, none⟩) (t + 1) c)) := by
  have hlo := h.lo
  refine ⟨ho.kept (grownBy_setCell_at w1 B 3 _) (.inr (by simp [Value.ownBlock]; omega)), ?_, ?_, ?_, ?_, ?_, hlo⟩
  · exact ((h.fb.alloc o).grown hg (by simp; omega)).far (by simp; omega) _
  · exact ((h.rb.alloc o).grown hg (by simp)).far (by simp; omega) _
  · have := ((h.box.alloc o).grown hg (by simp; omega)).set_ 3 (.slice (some ⟨w.heap.size + 1 + 1, 0, none⟩) (t + 1) c)
    simpa using this
  · exact ((h.pb.alloc o).grown hg (by simp; omega)).far (by simp) _
  · exact ((h.be.alloc (by have := h.be.size; omega) o).grown hg (by have := h.be.size; simp; omega) (fun k e => by cases e; omega)).setCell (by simp; omega) _
end

set_option maxRecDepth 100000 in
set_option maxHeartbeats 4000000 in
theorem build_any (K : FuncId) (caps : Array Value) (eK : ∀ (args : Array Value) (w : World), (callFunc K args).run Try.prog w = .ok (.enter K args) w) (m L H : Nat) (h1 : 2 ≤ m) (h2 : m ≤ 17) (G : Nat → Nat) (w : World) (hG : Gives3 K caps m G w) :
    Calls Try.prog 85 #[.int .i64 m, .float .f32 L, .float .f32 H, .func (.func K) #[] caps] w fun e w' =>
      ∃ b c, e = .returned (cub m L H (some ⟨b, 0, none⟩) (3 * (m * m * m)) c) ∧ 3 * (m * m * m) ≤ c ∧ w.heap.size ≤ b ∧ Rd w' b 0 (3 * (m * m * m)) G ∧ Below w.heap.size w w' := by
  have HG := hid hG
  clear hG
  obtain ⟨M, hM⟩ : ∃ M : Nat, 3 * (m * m * m) = M := ⟨_, rfl⟩
  have hM2 : M ≤ 14739 := by
    have : m * m ≤ 17 * 17 := Nat.mul_le_mul h2 h2
    have : m * m * m ≤ 17 * 17 * 17 := Nat.mul_le_mul this h2
    omega
  have hM3 : 3 * (m : Int) * (m : Int) * (m : Int) = (M : Int) := by rw [← hM]; simp [Int.mul_assoc]
  have q0 : 3 * (m : Int) * (m : Int) = ((3 * (m * m) : Nat) : Int) := by simp [Int.mul_assoc]
  have q0' : 3 * (m * m) ≤ 3 * (17 * 17) := Nat.mul_le_mul_left _ (Nat.mul_le_mul h2 h2)
  have q1 : wrap64 (3 * (m : Int) * (m : Int)) = 3 * (m : Int) * (m : Int) := wrap64_id _ (by rw [q0]; omega)
  have q2 : wrap64 (3 * (m : Int) * (m : Int) * (m : Int)) = (M : Int) := by rw [hM3]; exact wrap64_id _ (by omega)
  clear q0 q0' hM3
  obtain ⟨i0, hi, hz0, hz1, hz2⟩ := info_parts info_f32
  refine (callsIn_wide (n := 4)).1 ?_
  refine callsIn_of_wp_marks Try.func85 rfl trivial ?_ rfl
  simp only [Try.ntmps85, List.size_toArray, List.length_cons, List.length_nil, Nat.reduceAdd, Nat.reduceSub, Array.replicate_succ, Array.replicate_zero, List.push_toArray, List.append_toArray, List.nil_append, List.cons_append]
  gi_wp2_with ((gi_at_make; refine wpListIn_make_own _ rfl _ _ 23 rfl (w.heap.size + 2) 22 i0 (.float .f32 0) 1 Try.underlying23 hi hz0 hz1 .i64 .i64 _ M rfl rfl q2 (by rw [hz2]; omega) (by unfold maxLen; omega) (by simp) ?_))
  intro w0 hown0 hgrow0
  obtain ⟨B, hs0⟩ : ∃ B, w0.heap.size = B := ⟨_, rfl⟩
  have hBs : w.heap.size + 1 + 1 + 1 ≤ B := by
    rw [← hs0]
    exact (hown0.lt (w.heap.size + 1 + 1) rfl).2
  gi_wp2_with (refine ⟨trivial, ?_⟩; gi_at_call 102; refine (places_in Fence.wide _ trivial rfl _ _).mono ?_; rintro e w' ⟨rfl, rfl⟩)
  have hN : 0 < m * m * m := Nat.mul_pos (Nat.mul_pos (by omega) (by omega)) (by omega)
  have P0 : PRel K caps m M L H w B 0 [] ((w0.alloc (.cells #[.int .i64 m, .float .f32 L, .float .f32 H, .slice (some ⟨w.heap.size + 1 + 1, 0, none⟩) 0 M] 25)).alloc (.cells #[.int .i64 m] 3)) :=
    ⟨(hown0.alloc _).alloc _, ((((Blk.new_at _ _ _ rfl).alloc _).grown hgrow0 (by simp)).alloc _).alloc _, (((Blk.new_at _ _ _ (by simp)).grown hgrow0 (by simp)).alloc _).alloc _,
      (Blk.new_at _ _ _ hs0.symm).alloc _, Blk.new_at _ _ _ (by simp [hs0]),
      (((((Below.refl _ _).alloc (Nat.le_refl _) _).alloc (by simp) _).grown hgrow0 (by simp; omega) (by simp)).alloc (by omega) _).alloc (by simp; omega) _, hBs⟩
  obtain ⟨W0, hW0⟩ : ∃ W0, (w0.alloc (.cells #[.int .i64 m, .float .f32 L, .float .f32 H, .slice (some ⟨w.heap.size + 1 + 1, 0, none⟩) 0 M] 25)).alloc (.cells #[.int .i64 m] 3) = W0 := ⟨_, rfl⟩
  have hsz : W0.heap.size = B + 2 := by rw [← hW0]; simp [hs0]
  rw [hW0] at P0 ⊢
  clear hW0 hown0 hgrow0 hs0
  refine wpIn_rangeFunc_ownH (F := Fence.wide) rfl (by omega) (gf := 135) (lb := #[.pointer (some ⟨B + 1, 0, none⟩)]) rfl trivial (enters_of Try.func135 (by kernel_rfl) rfl)
    (places_stops Fence.wide (4 - 1) trivial rfl (by omega) w.heap.size (B + 1) m h2 hN W0 (by omega) (by rw [P0.pb.cell 0]; rfl)) KpB.trans (KpB.put (by omega)) (Below.refl _ _) (fun _ => rfl)
    (fun pre W => PRel K caps m M L H w B (3 * pre.length) (rowP G pre) W)
    (fun _ _ _ => False)
    (fun pre X Y row hs hg hr => hs.grown hg fun r e => ⟨by have := (hr r e).1; omega, (hr r e).2⟩)
    (fun _ _ _ _ _ hs _ _ => hs)
    P0
    (fun x a' W => ∃ Bx, B + 1 < Bx ∧ Blk W Bx 94 #[.int .i64 (plc m x.1).1, .int .i64 (plc m x.1).2.1, .int .i64 (plc m x.1).2.2] ∧ a' = { tmps := #[.int .i64 ↑m, .float .f32 L, .float .f32 H, .func (.func K) #[] caps, undef, undef, undef, .pointer (some { block := w.heap.size, off := 0 }), .pointer (some { block := w.heap.size + 1, off := 0 }), .pointer (some { block := B, off := 0 }), .pointer (some { block := Bx, off := 0 }), undef, undef, .int .i64 ↑m, .float .f32 L, .float .f32 H, .int .i64 ↑m, .int .i64 (3 * ↑m), .int .i64 ↑m, .int .i64 (3 * ↑m * ↑m), .int .i64 ↑m, .int .i64 ↑M, .slice (some { block := w.heap.size + 1 + 1, off := 0 }) 0 M, .agg #[.int .i64 ↑m, .float .f32 L, .float .f32 H, .slice (some { block := w.heap.size + 1 + 1, off := 0 }) 0 M], .int .i64 ↑m, .func (.func 135) #[] #[.pointer (some { block := B + 1, off := 0 })], ijkP (plc m x.1), undef, undef, undef, undef, undef, undef, undef, undef, undef, undef, undef, undef, undef, undef, undef], defers := [] })
    (fun x a' _ X Y row hs hg hr => by obtain ⟨Bx, g1, g2, g3⟩ := hs; exact ⟨Bx, g1, g2.kept hg (fun r e => (hr r e).2), g3⟩)
    ?assign ?body ?done ?stop
  case assign =>
    rintro l pre x W Q1 hP hQ1
    gi_wp2
    exact hQ1 _ _ ((KeepsOthers.alloc _ _).from _) ⟨(Below.refl _ W).alloc (by have := hP.be.size; omega) _, fun v hv => by rw [World.cell?_alloc_some _ _ _ (by simp [hv])]; exact hv⟩ (hP.alloc _) ⟨W.heap.size, by have := hP.pb.lt; omega, Blk.new_at _ _ _ rfl, rfl⟩
  case body =>
    rintro l pre x a' W hl ⟨r, hr⟩ hP ⟨Bx, hBx, bX, rfl⟩ hlt
    have HP := hid hP
    have HX := hid bX
    have c7 := hP.fb.cell 0
    have x0 := bX.cell 0
    have x1 := bX.cell 1
    have x2 := bX.cell 2
    simp at c7 x0 x1 x2
    have hcall := HG.out x.1 W x.2 hP.be
    have HC := hid hcall
    clear hcall hP bX hr
    gi_wp2
    refine ⟨trivial, ?_⟩
    refine (CallsIn.inRound l (callsIn_wide.2 HC.out)).mono ?_
    rintro e W1 ⟨f, rfl, hf, hbW⟩
    have P1 : PRel K caps m M L H w B (3 * pre.length) (rowP G pre) W1 := HP.out.below hbW
    have HF := hid hf
    have HBW := hid hbW
    have HP1 := hid P1
    clear HC HX c7 x0 x1 x2 P1 hf hbW
    gi_wp2
    gi_loopw [30] (fun v wr => ∃ r : Nat, r ≤ 3 ∧ v = .int .i64 r ∧ PRel K caps m M L H w B (3 * pre.length + r) (rowP G pre ++ triL G x.1 r) wr ∧ KeepsFrom W0.heap.size W wr)
      (fun v _ => 3 - (intOf v).toNat)
    case atStart => exact ⟨0, by omega, rfl, by simpa [triL] using HP1.out, (keeps_of_below HBW.out).from _⟩
    case round =>
      obtain ⟨k, hk, rfl, hP, hKF⟩ := hrel
      clear HP1 HBW
      have HPk := hid hP
      have HKF := hid hKF
      by_cases hlk : k < 3
      · have hix := run_index_arr f k hlk
        have k1 : (0 : Int) ≤ (k : Int) := by omega
        have k2 : (k : Int) < 3 := by omega
        have c3 := hP.box.cell 3
        have f3 := hP.box.frozen 3
        simp at c3
        have c3a : (wr.alloc (.cells #[.float .f32 (cl (f k))] 22)).cell? ⟨B, 3, none⟩ = some (.slice (some ⟨w.heap.size + 1 + 1, 0, none⟩) (3 * pre.length + k) M) := by rw [World.cell?_alloc_some _ _ _ (by simp [c3])]; exact c3
        obtain ⟨w2, hrun, hown2, hgrow2⟩ := run_append_fits (P := Try.prog) (w := wr.drew.alloc (.cells #[.float .f32 (cl (f k))] 22)) (w.heap.size + 2) 23 23 22 i0 1 Try.underlying23 hi hz1
          (w.heap.size + 1 + 1) (3 * pre.length + k) M _ ((show wr.drew.ownsRow _ _ _ _ _ _ from hP.own).alloc _) ⟨wr.heap.size, 0, none⟩ 1 1 [.float .f32 (cl (f k))] rfl (cell_one_new _ _ _) (by simp [Value.oneCell']) (by omega)
        clear hP hKF
        have hcl : ∀ wx : World, Calls Try.prog 117 #[.float .f32 (f k)] wx fun e w' => e = .returned (.float .f32 (cl (f k))) ∧ wx = w' := fun wx => clean_any _ _
        have b2 : Blk w2 B 25 _ := ((show Blk wr.drew B 25 _ from HPk.out.box).alloc _).grown hgrow2 (by have := HPk.out.lo; simp; omega)
        have d3 := b2.cell 3
        have g3 := b2.frozen 3
        simp at d3
        clear b2
        gi_wp2
        refine wpIn_region_plain (by kernel_rfl) (by kernel_rfl) ?_
        refine any_take (i := 0) (some 33) (v := .pointer (some ⟨B, 3, none⟩)) rfl rfl (by kernel_rfl) (by kernel_rfl) (by kernel_rfl) (fun _ _ _ h => h) rfl (fun w => by go_simp) ?_
        refine any_take (i := 2) (some 35) (v := .float .f32 (f k)) rfl rfl (by kernel_rfl) (by kernel_rfl) (by kernel_rfl) (fun _ _ _ h => h) rfl (fun w => by go_simp) ?_
        simp only [Act.put, List.size_toArray, List.length_cons, List.length_nil, Nat.reduceAdd, Array.replicate_succ, Array.replicate_zero, List.push_toArray, List.nil_append, List.cons_append, List.setIfInBounds_toArray, List.set_cons_zero, List.set_cons_succ]
        refine any_two (i := 1) (j := 3) (by kernel_rfl) (op_value (some 34) rfl rfl rfl (v := .slice (some ⟨w.heap.size + 1 + 1, 0, none⟩) (3 * pre.length + k) M) (w' := wr.drew) (by go_simp) ?_) (op_call (some 36) rfl rfl rfl (v := .float .f32 (cl (f k))) (by go_simp) (hcl _) ?_)
        · simp only [Act.put, List.setIfInBounds_toArray, List.set_cons_zero, List.set_cons_succ]
          refine any_one (i := 3) (by kernel_rfl) (op_call (some 36) rfl rfl rfl (v := .float .f32 (cl (f k))) (by go_simp) (hcl _) ?_)
          simp only [Act.put, List.setIfInBounds_toArray, List.set_cons_zero, List.set_cons_succ]
          refine any_one (i := 4) (by kernel_rfl) (op_value (some 37) rfl rfl rfl (v := .slice (some ⟨wr.heap.size, 0, none⟩) 1 1) (w' := wr.drew.alloc (.cells #[.float .f32 (cl (f k))] 22)) (by go_simp) ?_)
          simp only [Act.put, List.setIfInBounds_toArray, List.set_cons_zero, List.set_cons_succ]
          refine any_one (i := 5) (by kernel_rfl) (op_value (some 38) rfl rfl rfl (v := .slice (some ⟨w.heap.size + 1 + 1, 0, none⟩) (3 * pre.length + k + 1) M) (w' := w2) (by simp [execOp, resolve, invoke, builtin, Act.eval, hrun, Result.andThen]) ?_)
          simp only [Act.put, List.setIfInBounds_toArray, List.set_cons_zero, List.set_cons_succ]
          refine any_one (i := 6) (by kernel_rfl) (op_value (some 39) rfl rfl rfl (v := .pointer (some ⟨B, 3, none⟩)) (w' := w2) (by go_simp) ?_)
          simp only [Act.put, List.setIfInBounds_toArray, List.set_cons_zero, List.set_cons_succ]
          refine any_one (i := 7) (by kernel_rfl) (op_skip none rfl rfl rfl (w' := w2.setCell ⟨B, 3, none⟩ (.slice (some ⟨w.heap.size + 1 + 1, 0, none⟩) (3 * pre.length + k + 1) M)) (by go_simp) ?_)
          simp only [Act.put, List.setIfInBounds_toArray, List.set_cons_zero, List.set_cons_succ]
          refine any_done (by kernel_rfl) ?_ _
          simp only [NoOut]
          gi_wp2
          go_roundw
          case rel => exact ⟨k + 1, by omega, by simp, by rw [triL_succ, ← List.append_assoc, ← HF.out k hlk]; exact HPk.out.drew.step hown2 hgrow2, HKF.out.trans (((KeepsOthers.drew wr).trans (HPk.out.drew.keeps hgrow2 _)).from _)⟩
          case measure => simp [intOf]; omega
        · simp only [Act.put, List.setIfInBounds_toArray, List.set_cons_zero, List.set_cons_succ]
          refine any_two (i := 1) (j := 4) (by kernel_rfl) (op_value (some 34) rfl rfl rfl (v := .slice (some ⟨w.heap.size + 1 + 1, 0, none⟩) (3 * pre.length + k) M) (w' := wr.drew) (by go_simp) ?_) (op_value (some 37) rfl rfl rfl (v := .slice (some ⟨wr.heap.size, 0, none⟩) 1 1) (w' := wr.drew.alloc (.cells #[.float .f32 (cl (f k))] 22)) (by go_simp) ?_)
          · simp only [Act.put, List.setIfInBounds_toArray, List.set_cons_zero, List.set_cons_succ]
            refine any_one (i := 4) (by kernel_rfl) (op_value (some 37) rfl rfl rfl (v := .slice (some ⟨wr.heap.size, 0, none⟩) 1 1) (w' := wr.drew.alloc (.cells #[.float .f32 (cl (f k))] 22)) (by go_simp) ?_)
            simp only [Act.put, List.setIfInBounds_toArray, List.set_cons_zero, List.set_cons_succ]
            refine any_one (i := 5) (by kernel_rfl) (op_value (some 38) rfl rfl rfl (v := .slice (some ⟨w.heap.size + 1 + 1, 0, none⟩) (3 * pre.length + k + 1) M) (w' := w2) (by simp [execOp, resolve, invoke, builtin, Act.eval, hrun, Result.andThen]) ?_)
            simp only [Act.put, List.setIfInBounds_toArray, List.set_cons_zero, List.set_cons_succ]
            refine any_one (i := 6) (by kernel_rfl) (op_value (some 39) rfl rfl rfl (v := .pointer (some ⟨B, 3, none⟩)) (w' := w2) (by go_simp) ?_)
            simp only [Act.put, List.setIfInBounds_toArray, List.set_cons_zero, List.set_cons_succ]
            refine any_one (i := 7) (by kernel_rfl) (op_skip none rfl rfl rfl (w' := w2.setCell ⟨B, 3, none⟩ (.slice (some ⟨w.heap.size + 1 + 1, 0, none⟩) (3 * pre.length + k + 1) M)) (by go_simp) ?_)
            simp only [Act.put, List.setIfInBounds_toArray, List.set_cons_zero, List.set_cons_succ]
            refine any_done (by kernel_rfl) ?_ _
            simp only [NoOut]
            gi_wp2
            go_roundw
            case rel => exact ⟨k + 1, by omega, by simp, by rw [triL_succ, ← List.append_assoc, ← HF.out k hlk]; exact HPk.out.drew.step hown2 hgrow2, HKF.out.trans (((KeepsOthers.drew wr).trans (HPk.out.drew.keeps hgrow2 _)).from _)⟩
            case measure => simp [intOf]; omega
          · simp only [Act.put, List.setIfInBounds_toArray, List.set_cons_zero, List.set_cons_succ]
            refine any_one (i := 1) (by kernel_rfl) (op_value (some 34) rfl rfl rfl (v := .slice (some ⟨w.heap.size + 1 + 1, 0, none⟩) (3 * pre.length + k) M) (w' := wr.drew.alloc (.cells #[.float .f32 (cl (f k))] 22)) (by go_simp) ?_)
            simp only [Act.put, List.setIfInBounds_toArray, List.set_cons_zero, List.set_cons_succ]
            refine any_one (i := 5) (by kernel_rfl) (op_value (some 38) rfl rfl rfl (v := .slice (some ⟨w.heap.size + 1 + 1, 0, none⟩) (3 * pre.length + k + 1) M) (w' := w2) (by simp [execOp, resolve, invoke, builtin, Act.eval, hrun, Result.andThen]) ?_)
            simp only [Act.put, List.setIfInBounds_toArray, List.set_cons_zero, List.set_cons_succ]
            refine any_one (i := 6) (by kernel_rfl) (op_value (some 39) rfl rfl rfl (v := .pointer (some ⟨B, 3, none⟩)) (w' := w2) (by go_simp) ?_)
            simp only [Act.put, List.setIfInBounds_toArray, List.set_cons_zero, List.set_cons_succ]
            refine any_one (i := 7) (by kernel_rfl) (op_skip none rfl rfl rfl (w' := w2.setCell ⟨B, 3, none⟩ (.slice (some ⟨w.heap.size + 1 + 1, 0, none⟩) (3 * pre.length + k + 1) M)) (by go_simp) ?_)
            simp only [Act.put, List.setIfInBounds_toArray, List.set_cons_zero, List.set_cons_succ]
            refine any_done (by kernel_rfl) ?_ _
            simp only [NoOut]
            gi_wp2
            go_roundw
            case rel => exact ⟨k + 1, by omega, by simp, by rw [triL_succ, ← List.append_assoc, ← HF.out k hlk]; exact HPk.out.drew.step hown2 hgrow2, HKF.out.trans (((KeepsOthers.drew wr).trans (HPk.out.drew.keeps hgrow2 _)).from _)⟩
            case measure => simp [intOf]; omega
      · obtain rfl : k = 3 := by omega
        clear hP hKF
        gi_wp2
        refine ⟨HKF.out, ⟨⟨HPk.out.be.os.trans HP.out.be.os.symm, HPk.out.be.tape.trans HP.out.be.tape.symm, HPk.out.be.output.trans HP.out.be.output.symm, HKF.out.size, fun k hk => (HPk.out.be.block k hk).trans (HP.out.be.block k hk).symm⟩, fun v hv => ?_⟩, ?_⟩
        · have a := HP.out.pb.cell 0
          have b := HPk.out.pb.cell 0
          rw [a] at hv
          rw [b]
          exact hv
        · show PRel K caps m M L H w B (3 * (pre ++ [x]).length) (rowP G (pre ++ [x])) wr
          rw [rowP_snoc, List.length_append, List.length_singleton, show 3 * (pre.length + 1) = 3 * pre.length + 3 by omega]
          exact HPk.out
  case done =>
    rintro D ys W hD rfl hP hK
    rw [upto_length, rowP_upto G m hN _ (Nat.le_refl _), hM] at hP
    have HP := hid hP
    have c0 := hP.box.cell 0
    have c1 := hP.box.cell 1
    have c2 := hP.box.cell 2
    have c3 := hP.box.cell 3
    have z0 := hP.rb.cell 0
    have z1 := hP.rb.cell 1
    have z2 := hP.rb.cell 2
    have z3 := hP.rb.cell 3
    have f0 := hP.rb.frozen 0
    have f1 := hP.rb.frozen 1
    have f2 := hP.rb.frozen 2
    have f3 := hP.rb.frozen 3
    simp at c0 c1 c2 c3 z0 z1 z2 z3
    clear hP
    gi_wp2
    have hK4 := ((((KeepsOthers.setCell W ⟨w.heap.size + 1, 0, none⟩ (.int .i64 m)).trans (KeepsOthers.setCell _ ⟨w.heap.size + 1, 1, none⟩ (.float .f32 L))).trans (KeepsOthers.setCell _ ⟨w.heap.size + 1, 2, none⟩ (.float .f32 H))).trans (KeepsOthers.setCell _ ⟨w.heap.size + 1, 3, none⟩ (.slice (some ⟨w.heap.size + 1 + 1, 0, none⟩) M M))).same D _ hK rfl
    refine ⟨by simp, .inl ⟨_, _, rfl, run_takeDeferred hK4, ?_⟩⟩
    have hg4 := grownBy_putObj' ((((W.setCell ⟨w.heap.size + 1, 0, none⟩ (.int .i64 m)).setCell ⟨w.heap.size + 1, 1, none⟩ (.float .f32 L)).setCell ⟨w.heap.size + 1, 2, none⟩ (.float .f32 H)).setCell ⟨w.heap.size + 1, 3, none⟩ (.slice (some ⟨w.heap.size + 1 + 1, 0, none⟩) M M)) D (.deferred none)
    have hb4 := (HP.out.rb.set4 (.int .i64 m) (.float .f32 L) (.float .f32 H) (.slice (some ⟨w.heap.size + 1 + 1, 0, none⟩) M M)).kept hg4 (fun r e => by cases e; exact ⟨_, hK4, rfl⟩)
    have be4 := (((HP.out.be.setCell (p := ⟨w.heap.size + 1, 0, none⟩) (by simp) (.int .i64 m)).setCell (p := ⟨w.heap.size + 1, 1, none⟩) (by simp) (.float .f32 L)).setCell (p := ⟨w.heap.size + 1, 2, none⟩) (by simp) (.float .f32 H)).setCell (p := ⟨w.heap.size + 1, 3, none⟩) (by simp) (.slice (some ⟨w.heap.size + 1 + 1, 0, none⟩) M M)
    refine ⟨_, results_cell_row rfl _ _ _ _ _ _ _ rfl hb4 Try.underlying25 rfl (by kernel_rfl), w.heap.size + 1 + 1, M, by rw [hM], by omega, by omega, ?_, be4.trans (belowK_b (w := w) (Nat.le_refl _) _ D _ _ (by have := HP.out.be.size; omega) hK4 rfl rfl)⟩
    intro i hi2
    have o4 := ownsRow_putObj (((((HP.out.own.kept (grownBy_setCell_at _ _ 0 (.int .i64 m)) (.inr (by simp [Value.ownBlock]))).kept (grownBy_setCell_at _ _ 1 (.float .f32 L)) (.inr (by simp [Value.ownBlock]))).kept (grownBy_setCell_at _ _ 2 (.float .f32 H)) (.inr (by simp [Value.ownBlock]))).kept (grownBy_setCell_at _ _ 3 (.slice (some ⟨w.heap.size + 1 + 1, 0, none⟩) M M)) (.inr (by simp [Value.ownBlock])))) (.deferred none) hK4 rfl
    rw [Nat.zero_add, o4.cellAt i (by omega), rowL_get G M i (by omega)]
  case stop =>
    rintro D c pre W _ _ h _
    exact h.elim

end Go.Proofs.Ythnbfllhmjpbjaa
