/-
  The law of parts of frames: what it needs; and its end: Cut, Paste and Same.
-/
import Derived.Test.YtjlghjblpbckfaaFCutB
import Derived.Deep.DeepCutAuto
import Derived.Deep.RegionWith
import Derived.Deep.CutBlock
import Derived.Deep.RegionHeld3
namespace Go.Proofs.Ytjlghjblpbckfaa
open Go.RowKit Go.Shelf
attribute [local go_sem] run_store_float

theorem eq_zpix (w : World) : (Op.equalIn 10000 42 (.agg zpix) (.agg zpix)).run Try.prog w = .ok true w := by
  kernel_rfl

/-- The boxes of the law, and what its frames read as. -/
structure LSt (w : World) (X Y p q : Int) (n c : Nat) (A : Option Addr) (F : Nat → Nat) (X' Y' p' q' : Int) (n' c' : Nat) (B : Option Addr) (G : Nat → Nat) (rx ry ra rb : Int) (P : Nat → Nat) (wr : World) : Prop where
  a : Blk wr w.heap.size 39 #[.int .i64 X, .int .i64 Y, .int .i64 p, .int .i64 q, .slice A n c]
  b : Blk wr (w.heap.size + 1) 39 #[.int .i64 X', .int .i64 Y', .int .i64 p', .int .i64 q', .slice B n' c']
  r : Blk wr (w.heap.size + 2) 23 #[.int .i64 rx, .int .i64 ry, .int .i64 ra, .int .i64 rb]
  p : Blk wr (w.heap.size + 3) 42 (pixC P)
  fa : Src wr A n F
  fb : Src wr B n' G
  be : Below w.heap.size w wr
section
variable {w wr w1 : World} {X Y p q : Int} {n c : Nat} {A : Option Addr} {F : Nat → Nat} {X' Y' p' q' : Int} {n' c' : Nat} {B : Option Addr} {G : Nat → Nat} {rx ry ra rb : Int} {P : Nat → Nat}
theorem LSt.below (h : LSt w X Y p q n c A F X' Y' p' q' n' c' B G rx ry ra rb P wr) (hb : Below wr.heap.size wr w1) : LSt w X Y p q n c A F X' Y' p' q' n' c' B G rx ry ra rb P w1 :=
  ⟨h.a.below hb h.a.lt, h.b.below hb h.b.lt, h.r.below hb h.r.lt, h.p.below hb h.p.lt, h.fa.below hb, h.fb.below hb, below_to h.be hb⟩
end

/-- A world's predicate as a limb of a region's condition. -/
structure Kp (L : World → Prop) (wr : World) : Prop where
  out : L wr
/-- A box with a frame that reads as F. -/
structure FBx (bx : Nat) (X Y p q : Int) (n c : Nat) (A : Option Addr) (F : Nat → Nat) (wr : World) : Prop where
  k : Blk wr bx 39 #[.int .i64 X, .int .i64 Y, .int .i64 p, .int .i64 q, .slice A n c]
  s : Src wr A n F
theorem FBx.below {bx : Nat} {X Y p q : Int} {n c : Nat} {A : Option Addr} {F : Nat → Nat} {wr w1 : World} (h : FBx bx X Y p q n c A F wr) (hb : Below wr.heap.size wr w1) : FBx bx X Y p q n c A F w1 := ⟨h.k.below hb h.k.lt, h.s.below hb⟩
theorem drew_below (w : World) : Below w.heap.size w w.drew := below_drewN (Below.refl _ _) 1

/-- Right frames in the boxes. -/
def LReady (w : World) (rx ry ra rb : Int) (P : Nat → Nat) (wr : World) : Prop :=
  ∃ (X Y : Int) (p q n ga : Nat) (F : Nat → Nat) (X' Y' : Int) (p' q' n' gb : Nat) (G : Nat → Nat), (frmE X Y p q n = 0 ∧ frmE X' Y' p' q' n' = 0 ∧ n ≤ 256 ∧ n' ≤ 256 ∧ -1000 ≤ X ∧ X ≤ 1000 ∧ -1000 ≤ Y ∧ Y ≤ 1000 ∧ p ≤ 8 ∧ q ≤ 8) ∧
    LSt w X Y p q n n (some ⟨ga, 0, none⟩) F X' Y' p' q' n' n' (some ⟨gb, 0, none⟩) G rx ry ra rb P wr

/-- What follows k statements of a body. -/
def cutTail : Nat → Code → Code
  | 0, c => c
  | n + 1, .seq _ b => cutTail n b
  | _ + 1, c => c

set_option maxRecDepth 100000 in
set_option maxHeartbeats 4000000 in
theorem cutRest (rx ry ra rb E : Int) (P : Nat → Nat) (w wc : World) (X Y : Int) (p q n ga : Nat) (F : Nat → Nat) (X' Y' : Int) (p' q' n' gb : Nat) (G : Nat → Nat) (v0 v1 v2 v3 v4 v5 v9 v10 v12 v13 v14 v16 v17 v18 v19 v20 v21 v22 v23 v24 v25 v26 v27 v28 v29 v30 v31 v32 v33 v34 v35 v36 v37 v38 v39 v40 v41 v42 v43 v44 v45 v46 v47 v48 v49 v50 v51 v52 v53 v54 v55 v56 v57 v58 v59 v60 v61 v62 v63 v64 v65 v66 v67 v68 v69 v70 v71 v72 v73 v74 v75 v76 v77 v78 v79 v80 v81 v82 v83 v84 v85 v86 v87 v88 v89 v90 v91 v92 v93 v94 v95 v96 v97 v98 v99 v100 v101 v102 v103 v104 v105 v106 v107 v108 v109 v110 v111 v112 v113 v114 v115 v116 v117 v118 v119 v120 v121 v122 v123 v124 v125 v126 v127 v128 v129 v130 v131 v132 v133 v134 v135 v136 v137 v138 v139 v140 v141 v142 v143 v144 v145 v146 v147 v148 v149 v150 v151 v152 v153 v154 v155 v156 v157 v158 v159 v160 v161 v162 v163 v164 v165 v166 v167 v168 v169 v170 v171 v172 v173 v174 v175 v176 v177 v178 v179 v180 v181 v182 v183 v184 v185 v186 v187 v188 v189 v190 v191 v192 v193 v194 v195 v196 v197 v198 v199 v200 v201 : Value)
    (hfc : frmE X Y p q n = 0 ∧ frmE X' Y' p' q' n' = 0 ∧ n ≤ 256 ∧ n' ≤ 256 ∧ -1000 ≤ X ∧ X ≤ 1000 ∧ -1000 ≤ Y ∧ Y ≤ 1000 ∧ p ≤ 8 ∧ q ≤ 8) (hE : regE rx ry ra rb = E) (hst : LSt w X Y p q n n (some ⟨ga, 0, none⟩) F X' Y' p' q' n' n' (some ⟨gb, 0, none⟩) G rx ry ra rb P wc) :
    Code.wp Try.prog (cutTail 10 (Try.f4.body.getD .skip)) (bodyPost Try.prog Try.f4 fun e w' => e = Ending.returned (.bool true) ∧ Below w.heap.size w w')
      { tmps := #[v0, v1, v2, v3, v4, v5, .pointer (some ⟨w.heap.size, 0, none⟩), .pointer (some ⟨w.heap.size + 1, 0, none⟩), .pointer (some ⟨w.heap.size + 1 + 1, 0, none⟩), v9, v10, .pointer (some ⟨w.heap.size + 1 + 1 + 1, 0, none⟩), v12, v13, v14, .int .i64 E, v16, v17, v18, v19, v20, v21, v22, v23, v24, v25, v26, v27, v28, v29, v30, v31, v32, v33, v34, v35, v36, v37, v38, v39, v40, v41, v42, v43, v44, v45, v46, v47, v48, v49, v50, v51, v52, v53, v54, v55, v56, v57, v58, v59, v60, v61, v62, v63, v64, v65, v66, v67, v68, v69, v70, v71, v72, v73, v74, v75, v76, v77, v78, v79, v80, v81, v82, v83, v84, v85, v86, v87, v88, v89, v90, v91, v92, v93, v94, v95, v96, v97, v98, v99, v100, v101, v102, v103, v104, v105, v106, v107, v108, v109, v110, v111, v112, v113, v114, v115, v116, v117, v118, v119, v120, v121, v122, v123, v124, v125, v126, v127, v128, v129, v130, v131, v132, v133, v134, v135, v136, v137, v138, v139, v140, v141, v142, v143, v144, v145, v146, v147, v148, v149, v150, v151, v152, v153, v154, v155, v156, v157, v158, v159, v160, v161, v162, v163, v164, v165, v166, v167, v168, v169, v170, v171, v172, v173, v174, v175, v176, v177, v178, v179, v180, v181, v182, v183, v184, v185, v186, v187, v188, v189, v190, v191, v192, v193, v194, v195, v196, v197, v198, v199, v200, v201], defers := [] } wc := by
  have HFC := hid hfc
  clear hfc
  have hmf : ∀ (fn : Fn) (first cap : Array Value) (w : World), (Instr.makeFunc fn first cap).run Try.prog w = .ok (.func fn first cap) w := fun _ _ _ _ => rfl
  conv => arg 2; simp only [Try.f4, Option.getD_some, cutTail]
  have HST := hid hst
  obtain ⟨E3, X3, Y3, p3, q3, n3, F3, hcu⟩ := cut_both X Y p q n n (some ⟨ga, 0, none⟩) F rx ry ra rb HFC.out.1 (Nat.le_refl _) (by have := HFC.out.2.2.1; unfold maxLen; omega)
  have HCU := hid hcu
  have a0 := hst.a.cell 0
  have a1 := hst.a.cell 1
  have a2 := hst.a.cell 2
  have a3 := hst.a.cell 3
  have a4 := hst.a.cell 4
  have r0 := hst.r.cell 0
  have r1 := hst.r.cell 1
  have r2 := hst.r.cell 2
  have r3 := hst.r.cell 3
  simp at a0 a1 a2 a3 a4 r0 r1 r2 r3
  have la := hst.a.lt
  have lr := hst.r.lt
  clear hcu hst
  go_wp2_with fail
  refine (HCU.out.prog _ HST.out.fa).mono ?_
  rintro e w11 ⟨A7, c7, rfl, hs7, hb7, _⟩
  have hal : Below w11.heap.size w11 (w11.alloc (.cells #[.int .i64 X3, .int .i64 Y3, .int .i64 p3, .int .i64 q3, .slice A7 n3 c7] 39)) := (Below.refl _ _).alloc (Nat.le_refl _) _
  have hbc : Blk (w11.alloc (.cells #[.int .i64 X3, .int .i64 Y3, .int .i64 p3, .int .i64 q3, .slice A7 n3 c7] 39)) w11.heap.size 39 #[.int .i64 X3, .int .i64 Y3, .int .i64 p3, .int .i64 q3, .slice A7 n3 c7] := Blk.new_at _ _ _ rfl
  have HS12 := hid ((HST.out.below hb7).below hal)
  have HFC12 := hid (show FBx w11.heap.size X3 Y3 p3 q3 n3 c7 A7 F3 _ from ⟨hbc, hs7.below hal⟩)
  clear a0 a1 a2 a3 a4 r0 r1 r2 r3 la lr hs7 hb7 hal hbc HST
  go_upto_block 0 with fail
  generalize hw12 : w11.alloc (.cells #[.int .i64 X3, .int .i64 Y3, .int .i64 p3, .int .i64 q3, .slice A7 n3 c7] 39) = w12 at *
  generalize w11.heap.size = bc at *
  clear hw12
  have HE := hid hE
  clear hE
  go_cut [] (fun wx => LSt w X Y p q n n (some ⟨ga, 0, none⟩) F X' Y' p' q' n' n' (some ⟨gb, 0, none⟩) G rx ry ra rb P wx)
  case first =>
    by_cases h0 : E = 0
    · have z1 : (E != 0) = false := by simp [h0]
      have hr0 : regE rx ry ra rb = 0 := by rw [HE.out]; exact h0
      have HR0 := hid hr0
      have HIN := hid fun w => insider_any rx ry ra rb X Y p q (small_of hr0) (small_of (frmE_zero HFC.out.1).1) w
      obtain ⟨inb, hinb⟩ : ∃ b, inB rx ry ra rb X Y p q = b := ⟨_, rfl⟩
      rw [hinb] at HIN
      have HB := hid hinb
      have a0 := HS12.out.a.cell 0
      have a1 := HS12.out.a.cell 1
      have a2 := HS12.out.a.cell 2
      have a3 := HS12.out.a.cell 3
      have a4 := HS12.out.a.cell 4
      have r0 := HS12.out.r.cell 0
      have r1 := HS12.out.r.cell 1
      have r2 := HS12.out.r.cell 2
      have r3 := HS12.out.r.cell 3
      simp at a0 a1 a2 a3 a4 r0 r1 r2 r3
      clear h0 hr0 hinb
      go_wp2_with fail
      refine (HIN.out _).mono ?_
      rintro e w14 ⟨rfl, hb14⟩
      have HS14 := hid (HS12.out.below hb14)
      have HFC14 := hid (HFC12.out.below hb14)
      clear a0 a1 a2 a3 a4 r0 r1 r2 r3 hb14 HS12 HFC12 HIN
      cases inb
      case false =>
        have e3 := HCU.out.out HR0.out HB.out
        subst e3
        go_wp2_with fail
        go_meet
        case rel => exact HS14.out
      case true =>
        obtain ⟨e1, e2, e3, e4, e5, hcr⟩ := HCU.out.ok HR0.out HB.out
        have e2' := e2.symm
        have e3' := e3.symm
        have e4' := e4.symm
        have e5' := e5.symm
        have HCR := hid hcr
        clear e2 e3 e4 e5 hcr
        subst e1
        rw [← e2', ← e3', ← e4', ← e5'] at HFC14
        clear e2' e3' e4' e5'
        go_wp2_with fail
        obtain ⟨L, HL⟩ : ∃ L : World → Prop, RowKit.Hid (∀ wr, L wr ↔ (LSt w X Y p q n n (some ⟨ga, 0, none⟩) F X' Y' p' q' n' n' (some ⟨gb, 0, none⟩) G rx ry ra rb P wr ∧ FBx bc rx ry ra rb n3 c7 A7 F3 wr)) := ⟨_, hid fun _ => Iff.rfl⟩
        have HCE : RowKit.Hid (∀ wr, L wr → wr.cell? ⟨bc, 0, none⟩ = some (.int .i64 rx) ∧ wr.cell? ⟨bc, 1, none⟩ = some (.int .i64 ry) ∧ wr.cell? ⟨bc, 2, none⟩ = some (.int .i64 ra) ∧ wr.cell? ⟨bc, 3, none⟩ = some (.int .i64 rb) ∧ wr.cell? ⟨bc, 4, none⟩ = some (.slice A7 n3 c7) ∧ wr.cell? ⟨w.heap.size, 0, none⟩ = some (.int .i64 X) ∧ wr.cell? ⟨w.heap.size, 1, none⟩ = some (.int .i64 Y) ∧ wr.cell? ⟨w.heap.size, 2, none⟩ = some (.int .i64 p) ∧ wr.cell? ⟨w.heap.size, 3, none⟩ = some (.int .i64 q) ∧ wr.cell? ⟨w.heap.size, 4, none⟩ = some (.slice (some ⟨ga, 0, none⟩) n n) ∧ wr.cell? ⟨w.heap.size + 2, 0, none⟩ = some (.int .i64 rx) ∧ wr.cell? ⟨w.heap.size + 2, 1, none⟩ = some (.int .i64 ry) ∧ wr.cell? ⟨w.heap.size + 2, 2, none⟩ = some (.int .i64 ra) ∧ wr.cell? ⟨w.heap.size + 2, 3, none⟩ = some (.int .i64 rb) ∧ Kp L wr) := hid fun wr h => by
          have hh := (HL.out wr).1 h
          exact ⟨hh.2.k.cell 0, hh.2.k.cell 1, hh.2.k.cell 2, hh.2.k.cell 3, hh.2.k.cell 4, hh.1.a.cell 0, hh.1.a.cell 1, hh.1.a.cell 2, hh.1.a.cell 3, hh.1.a.cell 4, hh.1.r.cell 0, hh.1.r.cell 1, hh.1.r.cell 2, hh.1.r.cell 3, ⟨h⟩⟩
        have HON : RowKit.Hid (∀ w1 w2 : World, Below w1.heap.size w1 w2 → (w1.cell? ⟨bc, 0, none⟩ = some (.int .i64 rx) ∧ w1.cell? ⟨bc, 1, none⟩ = some (.int .i64 ry) ∧ w1.cell? ⟨bc, 2, none⟩ = some (.int .i64 ra) ∧ w1.cell? ⟨bc, 3, none⟩ = some (.int .i64 rb) ∧ w1.cell? ⟨bc, 4, none⟩ = some (.slice A7 n3 c7) ∧ w1.cell? ⟨w.heap.size, 0, none⟩ = some (.int .i64 X) ∧ w1.cell? ⟨w.heap.size, 1, none⟩ = some (.int .i64 Y) ∧ w1.cell? ⟨w.heap.size, 2, none⟩ = some (.int .i64 p) ∧ w1.cell? ⟨w.heap.size, 3, none⟩ = some (.int .i64 q) ∧ w1.cell? ⟨w.heap.size, 4, none⟩ = some (.slice (some ⟨ga, 0, none⟩) n n) ∧ w1.cell? ⟨w.heap.size + 2, 0, none⟩ = some (.int .i64 rx) ∧ w1.cell? ⟨w.heap.size + 2, 1, none⟩ = some (.int .i64 ry) ∧ w1.cell? ⟨w.heap.size + 2, 2, none⟩ = some (.int .i64 ra) ∧ w1.cell? ⟨w.heap.size + 2, 3, none⟩ = some (.int .i64 rb) ∧ Kp L w1) → w2.cell? ⟨bc, 0, none⟩ = some (.int .i64 rx) ∧ w2.cell? ⟨bc, 1, none⟩ = some (.int .i64 ry) ∧ w2.cell? ⟨bc, 2, none⟩ = some (.int .i64 ra) ∧ w2.cell? ⟨bc, 3, none⟩ = some (.int .i64 rb) ∧ w2.cell? ⟨bc, 4, none⟩ = some (.slice A7 n3 c7) ∧ w2.cell? ⟨w.heap.size, 0, none⟩ = some (.int .i64 X) ∧ w2.cell? ⟨w.heap.size, 1, none⟩ = some (.int .i64 Y) ∧ w2.cell? ⟨w.heap.size, 2, none⟩ = some (.int .i64 p) ∧ w2.cell? ⟨w.heap.size, 3, none⟩ = some (.int .i64 q) ∧ w2.cell? ⟨w.heap.size, 4, none⟩ = some (.slice (some ⟨ga, 0, none⟩) n n) ∧ w2.cell? ⟨w.heap.size + 2, 0, none⟩ = some (.int .i64 rx) ∧ w2.cell? ⟨w.heap.size + 2, 1, none⟩ = some (.int .i64 ry) ∧ w2.cell? ⟨w.heap.size + 2, 2, none⟩ = some (.int .i64 ra) ∧ w2.cell? ⟨w.heap.size + 2, 3, none⟩ = some (.int .i64 rb) ∧ Kp L w2) := hid fun w1 w2 hb h => by
          have hh := (HL.out w1).1 h.2.2.2.2.2.2.2.2.2.2.2.2.2.2.out
          exact HCE.out w2 ((HL.out w2).2 (⟨hh.1.below hb, hh.2.below hb⟩))
        have HST0 : RowKit.Hid (w14.drew.cell? ⟨bc, 0, none⟩ = some (.int .i64 rx) ∧ w14.drew.cell? ⟨bc, 1, none⟩ = some (.int .i64 ry) ∧ w14.drew.cell? ⟨bc, 2, none⟩ = some (.int .i64 ra) ∧ w14.drew.cell? ⟨bc, 3, none⟩ = some (.int .i64 rb) ∧ w14.drew.cell? ⟨bc, 4, none⟩ = some (.slice A7 n3 c7) ∧ w14.drew.cell? ⟨w.heap.size, 0, none⟩ = some (.int .i64 X) ∧ w14.drew.cell? ⟨w.heap.size, 1, none⟩ = some (.int .i64 Y) ∧ w14.drew.cell? ⟨w.heap.size, 2, none⟩ = some (.int .i64 p) ∧ w14.drew.cell? ⟨w.heap.size, 3, none⟩ = some (.int .i64 q) ∧ w14.drew.cell? ⟨w.heap.size, 4, none⟩ = some (.slice (some ⟨ga, 0, none⟩) n n) ∧ w14.drew.cell? ⟨w.heap.size + 2, 0, none⟩ = some (.int .i64 rx) ∧ w14.drew.cell? ⟨w.heap.size + 2, 1, none⟩ = some (.int .i64 ry) ∧ w14.drew.cell? ⟨w.heap.size + 2, 2, none⟩ = some (.int .i64 ra) ∧ w14.drew.cell? ⟨w.heap.size + 2, 3, none⟩ = some (.int .i64 rb) ∧ Kp L w14.drew) := hid (HCE.out _ ((HL.out _).2 (⟨HS14.out.below (drew_below _), HFC14.out.below (drew_below _)⟩)))
        have HPA : RowKit.Hid (∀ wr, (wr.cell? ⟨bc, 0, none⟩ = some (.int .i64 rx) ∧ wr.cell? ⟨bc, 1, none⟩ = some (.int .i64 ry) ∧ wr.cell? ⟨bc, 2, none⟩ = some (.int .i64 ra) ∧ wr.cell? ⟨bc, 3, none⟩ = some (.int .i64 rb) ∧ wr.cell? ⟨bc, 4, none⟩ = some (.slice A7 n3 c7) ∧ wr.cell? ⟨w.heap.size, 0, none⟩ = some (.int .i64 X) ∧ wr.cell? ⟨w.heap.size, 1, none⟩ = some (.int .i64 Y) ∧ wr.cell? ⟨w.heap.size, 2, none⟩ = some (.int .i64 p) ∧ wr.cell? ⟨w.heap.size, 3, none⟩ = some (.int .i64 q) ∧ wr.cell? ⟨w.heap.size, 4, none⟩ = some (.slice (some ⟨ga, 0, none⟩) n n) ∧ wr.cell? ⟨w.heap.size + 2, 0, none⟩ = some (.int .i64 rx) ∧ wr.cell? ⟨w.heap.size + 2, 1, none⟩ = some (.int .i64 ry) ∧ wr.cell? ⟨w.heap.size + 2, 2, none⟩ = some (.int .i64 ra) ∧ wr.cell? ⟨w.heap.size + 2, 3, none⟩ = some (.int .i64 rb) ∧ Kp L wr) → Calls Try.prog 34 #[frm X Y p q (some ⟨ga, 0, none⟩) n n, reg rx ry ra rb] wr (FO wr rx ry ra rb n3 F3)) := hid fun wr h => HCR.out wr ((HL.out wr).1 h.2.2.2.2.2.2.2.2.2.2.2.2.2.2.out).1.fa
        have HSF : RowKit.Hid (∀ wr, (wr.cell? ⟨bc, 0, none⟩ = some (.int .i64 rx) ∧ wr.cell? ⟨bc, 1, none⟩ = some (.int .i64 ry) ∧ wr.cell? ⟨bc, 2, none⟩ = some (.int .i64 ra) ∧ wr.cell? ⟨bc, 3, none⟩ = some (.int .i64 rb) ∧ wr.cell? ⟨bc, 4, none⟩ = some (.slice A7 n3 c7) ∧ wr.cell? ⟨w.heap.size, 0, none⟩ = some (.int .i64 X) ∧ wr.cell? ⟨w.heap.size, 1, none⟩ = some (.int .i64 Y) ∧ wr.cell? ⟨w.heap.size, 2, none⟩ = some (.int .i64 p) ∧ wr.cell? ⟨w.heap.size, 3, none⟩ = some (.int .i64 q) ∧ wr.cell? ⟨w.heap.size, 4, none⟩ = some (.slice (some ⟨ga, 0, none⟩) n n) ∧ wr.cell? ⟨w.heap.size + 2, 0, none⟩ = some (.int .i64 rx) ∧ wr.cell? ⟨w.heap.size + 2, 1, none⟩ = some (.int .i64 ry) ∧ wr.cell? ⟨w.heap.size + 2, 2, none⟩ = some (.int .i64 ra) ∧ wr.cell? ⟨w.heap.size + 2, 3, none⟩ = some (.int .i64 rb) ∧ Kp L wr) → ∀ (A2 : Option Addr) (c2 : Nat), Src wr A2 n3 F3 → Calls Try.prog 23 #[frm rx ry ra rb A7 n3 c7, frm rx ry ra rb A2 n3 c2] wr fun e w' => e = .returned (.bool true) ∧ Below wr.heap.size wr w') := hid fun wr h A2 c2 hs => sameFrame_any rx ry ra rb n3 c7 c2 A7 A2 F3 F3 wr HCU.out.le ((HL.out wr).1 h.2.2.2.2.2.2.2.2.2.2.2.2.2.2.out).2.s hs fun _ _ => rfl
        clear HS14 HFC14 HCR
        go_region_held3 (fun w' => w'.cell? ⟨bc, 0, none⟩ = some (.int .i64 rx) ∧ w'.cell? ⟨bc, 1, none⟩ = some (.int .i64 ry) ∧ w'.cell? ⟨bc, 2, none⟩ = some (.int .i64 ra) ∧ w'.cell? ⟨bc, 3, none⟩ = some (.int .i64 rb) ∧ w'.cell? ⟨bc, 4, none⟩ = some (.slice A7 n3 c7) ∧ w'.cell? ⟨w.heap.size, 0, none⟩ = some (.int .i64 X) ∧ w'.cell? ⟨w.heap.size, 1, none⟩ = some (.int .i64 Y) ∧ w'.cell? ⟨w.heap.size, 2, none⟩ = some (.int .i64 p) ∧ w'.cell? ⟨w.heap.size, 3, none⟩ = some (.int .i64 q) ∧ w'.cell? ⟨w.heap.size, 4, none⟩ = some (.slice (some ⟨ga, 0, none⟩) n n) ∧ w'.cell? ⟨w.heap.size + 2, 0, none⟩ = some (.int .i64 rx) ∧ w'.cell? ⟨w.heap.size + 2, 1, none⟩ = some (.int .i64 ry) ∧ w'.cell? ⟨w.heap.size + 2, 2, none⟩ = some (.int .i64 ra) ∧ w'.cell? ⟨w.heap.size + 2, 3, none⟩ = some (.int .i64 rb) ∧ Kp L w') (first | exact HST0.out | exact HON.out _ _ (by assumption) (by assumption) | assumption)
          (first
            | (go_at_call 34; refine (HPA.out _ (by assumption)).mono ?_; rintro e wp ⟨A2, c2, rfl, hs, hb, _⟩)
            | (go_at_call 23; refine (HSF.out _ (by assumption) _ _ (by assumption)).mono ?_; rintro e ws ⟨rfl, hb⟩))
        all_goals
          rename_i hH
          have HK := hid ((HL.out _).1 hH.2.2.2.2.2.2.2.2.2.2.2.2.2.2.out)
          clear hH
          go_wp2_with fail
          go_meet
          case rel => exact HK.out.1
    · have z1 : (E != 0) = true := by simp [h0]
      have e3 := HCU.out.bad (by rw [HE.out]; exact h0)
      rw [HE.out] at e3
      have z2 : (E3 != E) = false := by simp [e3]
      clear h0 e3
      go_wp2_with fail
      go_meet
      case rel => exact HS12.out
  case rest =>
    have hst := hcut
    have HST := hid hst
    obtain ⟨ok, E4, X4, Y4, p4, q4, n4, F4, hpb⟩ := paste_both X Y p q n n (some ⟨ga, 0, none⟩) F X' Y' p' q' n' n' (some ⟨gb, 0, none⟩) G HFC.out.1 HFC.out.2.1 (by have := HFC.out.2.2.1; omega) (Nat.le_refl _) (by have := HFC.out.2.2.1; unfold maxLen; omega) (Nat.le_refl _) (by have := HFC.out.2.2.2.1; unfold maxLen; omega)
    have HPB := hid hpb
    have a0 := hst.a.cell 0
    have a1 := hst.a.cell 1
    have a2 := hst.a.cell 2
    have a3 := hst.a.cell 3
    have a4 := hst.a.cell 4
    have b0 := hst.b.cell 0
    have b1 := hst.b.cell 1
    have b2 := hst.b.cell 2
    have b3 := hst.b.cell 3
    have b4 := hst.b.cell 4
    simp at a0 a1 a2 a3 a4 b0 b1 b2 b3 b4
    have la := hst.a.lt
    have lb := hst.b.lt
    clear hpb hst hcut HS12 HFC12 HCU HE
    go_wp2_with fail
    refine (HPB.out.prog _ HST.out.fa HST.out.fb).mono ?_
    rintro e w15 ⟨A8, c8, rfl, hs8, hb8, _⟩
    have hal : Below w15.heap.size w15 (w15.alloc (.cells #[.int .i64 X4, .int .i64 Y4, .int .i64 p4, .int .i64 q4, .slice A8 n4 c8] 39)) := (Below.refl _ _).alloc (Nat.le_refl _) _
    have hbd : Blk (w15.alloc (.cells #[.int .i64 X4, .int .i64 Y4, .int .i64 p4, .int .i64 q4, .slice A8 n4 c8] 39)) w15.heap.size 39 #[.int .i64 X4, .int .i64 Y4, .int .i64 p4, .int .i64 q4, .slice A8 n4 c8] := Blk.new_at _ _ _ rfl
    have HS15 := hid (HST.out.below hb8)
    have HS16 := hid ((HST.out.below hb8).below hal)
    have HFD16 := hid (show FBx w15.heap.size X4 Y4 p4 q4 n4 c8 A8 F4 _ from ⟨hbd, hs8.below hal⟩)
    clear a0 a1 a2 a3 a4 b0 b1 b2 b3 b4 la lb hs8 hb8 hal hbd HST
    have a0 := HS15.out.a.cell 0
    have a1 := HS15.out.a.cell 1
    have a2 := HS15.out.a.cell 2
    have a3 := HS15.out.a.cell 3
    have b0 := HS15.out.b.cell 0
    have b1 := HS15.out.b.cell 1
    have b2 := HS15.out.b.cell 2
    have b3 := HS15.out.b.cell 3
    simp at a0 a1 a2 a3 b0 b1 b2 b3
    have la := HS15.out.a.lt
    have lb := HS15.out.b.lt
    go_wp2_with fail
    refine (HPB.out.com _).mono ?_
    rintro e w16 ⟨s0, s1, s2, s3, rfl, hb9⟩
    have hal : Below w16.heap.size w16 (w16.alloc (.cells #[.int .i64 s0, .int .i64 s1, .int .i64 s2, .int .i64 s3] 23)) := (Below.refl _ _).alloc (Nat.le_refl _) _
    have HS17 := hid ((HS16.out.below hb9).below hal)
    have HFD17 := hid ((HFD16.out.below hb9).below hal)
    have hfd := (HFD16.out.below hb9).k
    have ld := hfd.lt
    have d4 := hfd.cell 4
    simp at d4
    clear a0 a1 a2 a3 b0 b1 b2 b3 la lb hb9 hal hfd HS15 HS16 HFD16
    generalize w15.heap.size = bd at *
    cases ok
    case false =>
      obtain ⟨e1, e2⟩ := HPB.out.no rfl
      subst e1 e2
      go_wp2_with fail
      go_ret
      exact ⟨rfl, HS17.out.be⟩
    case true =>
      obtain ⟨e1, e2, e3, e4, e5, hpr⟩ := HPB.out.yes rfl
      have e2' := e2.symm
      have e3' := e3.symm
      have e4' := e4.symm
      have e5' := e5.symm
      have HPR := hid hpr
      clear e2 e3 e4 e5 hpr d4 ld
      subst e1
      rw [← e2', ← e3', ← e4', ← e5'] at HFD17
      clear e2' e3' e4' e5'
      obtain ⟨s, hs1, hs2⟩ := same_both X Y p q X' Y' p' q' n n n' n' (some ⟨ga, 0, none⟩) (some ⟨gb, 0, none⟩) F G HFC.out.1 HFC.out.2.1 (by have := HFC.out.2.2.1; omega)
      have HS1s := hid hs1
      have HS2s := hid hs2
      clear hs1 hs2
      go_upto_region 31 with fail
      generalize hw17 : w16.alloc (.cells #[.int .i64 s0, .int .i64 s1, .int .i64 s2, .int .i64 s3] 23) = w17 at *
      clear hw17
      obtain ⟨L, HL⟩ : ∃ L : World → Prop, RowKit.Hid (∀ wr, L wr ↔ (LSt w X Y p q n n (some ⟨ga, 0, none⟩) F X' Y' p' q' n' n' (some ⟨gb, 0, none⟩) G rx ry ra rb P wr ∧ FBx bd X Y p q n4 c8 A8 F4 wr)) := ⟨_, hid fun _ => Iff.rfl⟩
      have HCE : RowKit.Hid (∀ wr, L wr → wr.cell? ⟨bd, 0, none⟩ = some (.int .i64 X) ∧ wr.cell? ⟨bd, 1, none⟩ = some (.int .i64 Y) ∧ wr.cell? ⟨bd, 2, none⟩ = some (.int .i64 p) ∧ wr.cell? ⟨bd, 3, none⟩ = some (.int .i64 q) ∧ wr.cell? ⟨bd, 4, none⟩ = some (.slice A8 n4 c8) ∧ wr.cell? ⟨w.heap.size, 0, none⟩ = some (.int .i64 X) ∧ wr.cell? ⟨w.heap.size, 1, none⟩ = some (.int .i64 Y) ∧ wr.cell? ⟨w.heap.size, 2, none⟩ = some (.int .i64 p) ∧ wr.cell? ⟨w.heap.size, 3, none⟩ = some (.int .i64 q) ∧ wr.cell? ⟨w.heap.size, 4, none⟩ = some (.slice (some ⟨ga, 0, none⟩) n n) ∧ wr.cell? ⟨w.heap.size + 1, 0, none⟩ = some (.int .i64 X') ∧ wr.cell? ⟨w.heap.size + 1, 1, none⟩ = some (.int .i64 Y') ∧ wr.cell? ⟨w.heap.size + 1, 2, none⟩ = some (.int .i64 p') ∧ wr.cell? ⟨w.heap.size + 1, 3, none⟩ = some (.int .i64 q') ∧ wr.cell? ⟨w.heap.size + 1, 4, none⟩ = some (.slice (some ⟨gb, 0, none⟩) n' n') ∧ Kp L wr) := hid fun wr h => by
        have hh := (HL.out wr).1 h
        exact ⟨hh.2.k.cell 0, hh.2.k.cell 1, hh.2.k.cell 2, hh.2.k.cell 3, hh.2.k.cell 4, hh.1.a.cell 0, hh.1.a.cell 1, hh.1.a.cell 2, hh.1.a.cell 3, hh.1.a.cell 4, hh.1.b.cell 0, hh.1.b.cell 1, hh.1.b.cell 2, hh.1.b.cell 3, hh.1.b.cell 4, ⟨h⟩⟩
      have HON : RowKit.Hid (∀ w1 w2 : World, Below w1.heap.size w1 w2 → (w1.cell? ⟨bd, 0, none⟩ = some (.int .i64 X) ∧ w1.cell? ⟨bd, 1, none⟩ = some (.int .i64 Y) ∧ w1.cell? ⟨bd, 2, none⟩ = some (.int .i64 p) ∧ w1.cell? ⟨bd, 3, none⟩ = some (.int .i64 q) ∧ w1.cell? ⟨bd, 4, none⟩ = some (.slice A8 n4 c8) ∧ w1.cell? ⟨w.heap.size, 0, none⟩ = some (.int .i64 X) ∧ w1.cell? ⟨w.heap.size, 1, none⟩ = some (.int .i64 Y) ∧ w1.cell? ⟨w.heap.size, 2, none⟩ = some (.int .i64 p) ∧ w1.cell? ⟨w.heap.size, 3, none⟩ = some (.int .i64 q) ∧ w1.cell? ⟨w.heap.size, 4, none⟩ = some (.slice (some ⟨ga, 0, none⟩) n n) ∧ w1.cell? ⟨w.heap.size + 1, 0, none⟩ = some (.int .i64 X') ∧ w1.cell? ⟨w.heap.size + 1, 1, none⟩ = some (.int .i64 Y') ∧ w1.cell? ⟨w.heap.size + 1, 2, none⟩ = some (.int .i64 p') ∧ w1.cell? ⟨w.heap.size + 1, 3, none⟩ = some (.int .i64 q') ∧ w1.cell? ⟨w.heap.size + 1, 4, none⟩ = some (.slice (some ⟨gb, 0, none⟩) n' n') ∧ Kp L w1) → w2.cell? ⟨bd, 0, none⟩ = some (.int .i64 X) ∧ w2.cell? ⟨bd, 1, none⟩ = some (.int .i64 Y) ∧ w2.cell? ⟨bd, 2, none⟩ = some (.int .i64 p) ∧ w2.cell? ⟨bd, 3, none⟩ = some (.int .i64 q) ∧ w2.cell? ⟨bd, 4, none⟩ = some (.slice A8 n4 c8) ∧ w2.cell? ⟨w.heap.size, 0, none⟩ = some (.int .i64 X) ∧ w2.cell? ⟨w.heap.size, 1, none⟩ = some (.int .i64 Y) ∧ w2.cell? ⟨w.heap.size, 2, none⟩ = some (.int .i64 p) ∧ w2.cell? ⟨w.heap.size, 3, none⟩ = some (.int .i64 q) ∧ w2.cell? ⟨w.heap.size, 4, none⟩ = some (.slice (some ⟨ga, 0, none⟩) n n) ∧ w2.cell? ⟨w.heap.size + 1, 0, none⟩ = some (.int .i64 X') ∧ w2.cell? ⟨w.heap.size + 1, 1, none⟩ = some (.int .i64 Y') ∧ w2.cell? ⟨w.heap.size + 1, 2, none⟩ = some (.int .i64 p') ∧ w2.cell? ⟨w.heap.size + 1, 3, none⟩ = some (.int .i64 q') ∧ w2.cell? ⟨w.heap.size + 1, 4, none⟩ = some (.slice (some ⟨gb, 0, none⟩) n' n') ∧ Kp L w2) := hid fun w1 w2 hb h => by
        have hh := (HL.out w1).1 h.2.2.2.2.2.2.2.2.2.2.2.2.2.2.2.out
        exact HCE.out w2 ((HL.out w2).2 (⟨hh.1.below hb, hh.2.below hb⟩))
      have HST0 : RowKit.Hid (w17.drew.cell? ⟨bd, 0, none⟩ = some (.int .i64 X) ∧ w17.drew.cell? ⟨bd, 1, none⟩ = some (.int .i64 Y) ∧ w17.drew.cell? ⟨bd, 2, none⟩ = some (.int .i64 p) ∧ w17.drew.cell? ⟨bd, 3, none⟩ = some (.int .i64 q) ∧ w17.drew.cell? ⟨bd, 4, none⟩ = some (.slice A8 n4 c8) ∧ w17.drew.cell? ⟨w.heap.size, 0, none⟩ = some (.int .i64 X) ∧ w17.drew.cell? ⟨w.heap.size, 1, none⟩ = some (.int .i64 Y) ∧ w17.drew.cell? ⟨w.heap.size, 2, none⟩ = some (.int .i64 p) ∧ w17.drew.cell? ⟨w.heap.size, 3, none⟩ = some (.int .i64 q) ∧ w17.drew.cell? ⟨w.heap.size, 4, none⟩ = some (.slice (some ⟨ga, 0, none⟩) n n) ∧ w17.drew.cell? ⟨w.heap.size + 1, 0, none⟩ = some (.int .i64 X') ∧ w17.drew.cell? ⟨w.heap.size + 1, 1, none⟩ = some (.int .i64 Y') ∧ w17.drew.cell? ⟨w.heap.size + 1, 2, none⟩ = some (.int .i64 p') ∧ w17.drew.cell? ⟨w.heap.size + 1, 3, none⟩ = some (.int .i64 q') ∧ w17.drew.cell? ⟨w.heap.size + 1, 4, none⟩ = some (.slice (some ⟨gb, 0, none⟩) n' n') ∧ Kp L w17.drew) := hid (HCE.out _ ((HL.out _).2 (⟨HS17.out.below (drew_below _), HFD17.out.below (drew_below _)⟩)))
      have HPA : RowKit.Hid (∀ wr, (wr.cell? ⟨bd, 0, none⟩ = some (.int .i64 X) ∧ wr.cell? ⟨bd, 1, none⟩ = some (.int .i64 Y) ∧ wr.cell? ⟨bd, 2, none⟩ = some (.int .i64 p) ∧ wr.cell? ⟨bd, 3, none⟩ = some (.int .i64 q) ∧ wr.cell? ⟨bd, 4, none⟩ = some (.slice A8 n4 c8) ∧ wr.cell? ⟨w.heap.size, 0, none⟩ = some (.int .i64 X) ∧ wr.cell? ⟨w.heap.size, 1, none⟩ = some (.int .i64 Y) ∧ wr.cell? ⟨w.heap.size, 2, none⟩ = some (.int .i64 p) ∧ wr.cell? ⟨w.heap.size, 3, none⟩ = some (.int .i64 q) ∧ wr.cell? ⟨w.heap.size, 4, none⟩ = some (.slice (some ⟨ga, 0, none⟩) n n) ∧ wr.cell? ⟨w.heap.size + 1, 0, none⟩ = some (.int .i64 X') ∧ wr.cell? ⟨w.heap.size + 1, 1, none⟩ = some (.int .i64 Y') ∧ wr.cell? ⟨w.heap.size + 1, 2, none⟩ = some (.int .i64 p') ∧ wr.cell? ⟨w.heap.size + 1, 3, none⟩ = some (.int .i64 q') ∧ wr.cell? ⟨w.heap.size + 1, 4, none⟩ = some (.slice (some ⟨gb, 0, none⟩) n' n') ∧ Kp L wr) → Calls Try.prog 32 #[frm X Y p q (some ⟨ga, 0, none⟩) n n, frm X' Y' p' q' (some ⟨gb, 0, none⟩) n' n'] wr (FO wr X Y p q n4 F4)) := hid fun wr h => HPR.out wr ((HL.out wr).1 h.2.2.2.2.2.2.2.2.2.2.2.2.2.2.2.out).1.fa ((HL.out wr).1 h.2.2.2.2.2.2.2.2.2.2.2.2.2.2.2.out).1.fb
      have HSF : RowKit.Hid (∀ wr, (wr.cell? ⟨bd, 0, none⟩ = some (.int .i64 X) ∧ wr.cell? ⟨bd, 1, none⟩ = some (.int .i64 Y) ∧ wr.cell? ⟨bd, 2, none⟩ = some (.int .i64 p) ∧ wr.cell? ⟨bd, 3, none⟩ = some (.int .i64 q) ∧ wr.cell? ⟨bd, 4, none⟩ = some (.slice A8 n4 c8) ∧ wr.cell? ⟨w.heap.size, 0, none⟩ = some (.int .i64 X) ∧ wr.cell? ⟨w.heap.size, 1, none⟩ = some (.int .i64 Y) ∧ wr.cell? ⟨w.heap.size, 2, none⟩ = some (.int .i64 p) ∧ wr.cell? ⟨w.heap.size, 3, none⟩ = some (.int .i64 q) ∧ wr.cell? ⟨w.heap.size, 4, none⟩ = some (.slice (some ⟨ga, 0, none⟩) n n) ∧ wr.cell? ⟨w.heap.size + 1, 0, none⟩ = some (.int .i64 X') ∧ wr.cell? ⟨w.heap.size + 1, 1, none⟩ = some (.int .i64 Y') ∧ wr.cell? ⟨w.heap.size + 1, 2, none⟩ = some (.int .i64 p') ∧ wr.cell? ⟨w.heap.size + 1, 3, none⟩ = some (.int .i64 q') ∧ wr.cell? ⟨w.heap.size + 1, 4, none⟩ = some (.slice (some ⟨gb, 0, none⟩) n' n') ∧ Kp L wr) → ∀ (A2 : Option Addr) (c2 : Nat), Src wr A2 n4 F4 → Calls Try.prog 23 #[frm X Y p q A8 n4 c8, frm X Y p q A2 n4 c2] wr fun e w' => e = .returned (.bool true) ∧ Below wr.heap.size wr w') := hid fun wr h A2 c2 hs => sameFrame_any X Y p q n4 c8 c2 A8 A2 F4 F4 wr HPB.out.le ((HL.out wr).1 h.2.2.2.2.2.2.2.2.2.2.2.2.2.2.2.out).2.s hs fun _ _ => rfl
      have HSP : RowKit.Hid (∀ wr, (wr.cell? ⟨bd, 0, none⟩ = some (.int .i64 X) ∧ wr.cell? ⟨bd, 1, none⟩ = some (.int .i64 Y) ∧ wr.cell? ⟨bd, 2, none⟩ = some (.int .i64 p) ∧ wr.cell? ⟨bd, 3, none⟩ = some (.int .i64 q) ∧ wr.cell? ⟨bd, 4, none⟩ = some (.slice A8 n4 c8) ∧ wr.cell? ⟨w.heap.size, 0, none⟩ = some (.int .i64 X) ∧ wr.cell? ⟨w.heap.size, 1, none⟩ = some (.int .i64 Y) ∧ wr.cell? ⟨w.heap.size, 2, none⟩ = some (.int .i64 p) ∧ wr.cell? ⟨w.heap.size, 3, none⟩ = some (.int .i64 q) ∧ wr.cell? ⟨w.heap.size, 4, none⟩ = some (.slice (some ⟨ga, 0, none⟩) n n) ∧ wr.cell? ⟨w.heap.size + 1, 0, none⟩ = some (.int .i64 X') ∧ wr.cell? ⟨w.heap.size + 1, 1, none⟩ = some (.int .i64 Y') ∧ wr.cell? ⟨w.heap.size + 1, 2, none⟩ = some (.int .i64 p') ∧ wr.cell? ⟨w.heap.size + 1, 3, none⟩ = some (.int .i64 q') ∧ wr.cell? ⟨w.heap.size + 1, 4, none⟩ = some (.slice (some ⟨gb, 0, none⟩) n' n') ∧ Kp L wr) → Calls Try.prog 36 #[frm X Y p q (some ⟨ga, 0, none⟩) n n, frm X' Y' p' q' (some ⟨gb, 0, none⟩) n' n'] wr fun e w' => e = .returned (.bool s) ∧ Below wr.heap.size wr w') := hid fun wr h => HS1s.out wr ((HL.out wr).1 h.2.2.2.2.2.2.2.2.2.2.2.2.2.2.2.out).1.fa ((HL.out wr).1 h.2.2.2.2.2.2.2.2.2.2.2.2.2.2.2.out).1.fb
      have HSR : RowKit.Hid (∀ wr, (wr.cell? ⟨bd, 0, none⟩ = some (.int .i64 X) ∧ wr.cell? ⟨bd, 1, none⟩ = some (.int .i64 Y) ∧ wr.cell? ⟨bd, 2, none⟩ = some (.int .i64 p) ∧ wr.cell? ⟨bd, 3, none⟩ = some (.int .i64 q) ∧ wr.cell? ⟨bd, 4, none⟩ = some (.slice A8 n4 c8) ∧ wr.cell? ⟨w.heap.size, 0, none⟩ = some (.int .i64 X) ∧ wr.cell? ⟨w.heap.size, 1, none⟩ = some (.int .i64 Y) ∧ wr.cell? ⟨w.heap.size, 2, none⟩ = some (.int .i64 p) ∧ wr.cell? ⟨w.heap.size, 3, none⟩ = some (.int .i64 q) ∧ wr.cell? ⟨w.heap.size, 4, none⟩ = some (.slice (some ⟨ga, 0, none⟩) n n) ∧ wr.cell? ⟨w.heap.size + 1, 0, none⟩ = some (.int .i64 X') ∧ wr.cell? ⟨w.heap.size + 1, 1, none⟩ = some (.int .i64 Y') ∧ wr.cell? ⟨w.heap.size + 1, 2, none⟩ = some (.int .i64 p') ∧ wr.cell? ⟨w.heap.size + 1, 3, none⟩ = some (.int .i64 q') ∧ wr.cell? ⟨w.heap.size + 1, 4, none⟩ = some (.slice (some ⟨gb, 0, none⟩) n' n') ∧ Kp L wr) → Calls Try.prog 37 #[frm X Y p q (some ⟨ga, 0, none⟩) n n, frm X' Y' p' q' (some ⟨gb, 0, none⟩) n' n'] wr fun e w' => e = .returned (.bool s) ∧ Below wr.heap.size wr w') := hid fun wr h => HS2s.out wr ((HL.out wr).1 h.2.2.2.2.2.2.2.2.2.2.2.2.2.2.2.out).1.fa ((HL.out wr).1 h.2.2.2.2.2.2.2.2.2.2.2.2.2.2.2.out).1.fb
      clear HS17 HFD17 HPR
      go_region_held3 (fun w' => w'.cell? ⟨bd, 0, none⟩ = some (.int .i64 X) ∧ w'.cell? ⟨bd, 1, none⟩ = some (.int .i64 Y) ∧ w'.cell? ⟨bd, 2, none⟩ = some (.int .i64 p) ∧ w'.cell? ⟨bd, 3, none⟩ = some (.int .i64 q) ∧ w'.cell? ⟨bd, 4, none⟩ = some (.slice A8 n4 c8) ∧ w'.cell? ⟨w.heap.size, 0, none⟩ = some (.int .i64 X) ∧ w'.cell? ⟨w.heap.size, 1, none⟩ = some (.int .i64 Y) ∧ w'.cell? ⟨w.heap.size, 2, none⟩ = some (.int .i64 p) ∧ w'.cell? ⟨w.heap.size, 3, none⟩ = some (.int .i64 q) ∧ w'.cell? ⟨w.heap.size, 4, none⟩ = some (.slice (some ⟨ga, 0, none⟩) n n) ∧ w'.cell? ⟨w.heap.size + 1, 0, none⟩ = some (.int .i64 X') ∧ w'.cell? ⟨w.heap.size + 1, 1, none⟩ = some (.int .i64 Y') ∧ w'.cell? ⟨w.heap.size + 1, 2, none⟩ = some (.int .i64 p') ∧ w'.cell? ⟨w.heap.size + 1, 3, none⟩ = some (.int .i64 q') ∧ w'.cell? ⟨w.heap.size + 1, 4, none⟩ = some (.slice (some ⟨gb, 0, none⟩) n' n') ∧ Kp L w') (first | exact HST0.out | exact HON.out _ _ (by assumption) (by assumption) | assumption)
        (first
          | (go_at_call 32; refine (HPA.out _ (by assumption)).mono ?_; rintro e wp ⟨A2, c2, rfl, hs, hb, _⟩)
          | (go_at_call 23; refine (HSF.out _ (by assumption) _ _ (by assumption)).mono ?_; rintro e ws ⟨rfl, hb⟩)
          | (go_at_call 36; refine (HSP.out _ (by assumption)).mono ?_; rintro e ws ⟨rfl, hb⟩)
          | (go_at_call 37; refine (HSR.out _ (by assumption)).mono ?_; rintro e ws ⟨rfl, hb⟩))
      all_goals
        rename_i hH
        have HK := hid ((HL.out _).1 hH.2.2.2.2.2.2.2.2.2.2.2.2.2.2.2.out)
        clear hH
        go_wp2_with fail
        go_ret
        exact ⟨by simp, HK.out.1.be⟩
end Go.Proofs.Ytjlghjblpbckfaa
