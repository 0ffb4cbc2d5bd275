/-
  The middle of a list, in the program.
-/
import Derived.Test.YtbenjfipbeikmaaStab
import Derived.Lib.Walk
import Derived.Lib.SliceRun
import Derived.Lib.OwnBridge
namespace Go.Proofs.Ytbenjfipbeikmaa
open Go.RowKit Go.Lib

set_option maxRecDepth 100000 in
set_option maxHeartbeats 2000000 in
theorem clone_any (b off n c : Nat) (l : List Nat) (w : World) (hl : l.length = n) (hn : n ≤ 300) (hc : Reads w b off l) :
    Calls Try.prog 90 #[.slice (some ⟨b, off, none⟩) n c] w fun e w' => ∃ v', e = .returned v' ∧ w'.ownsRow w.heap.size 22 1 v' n (l.map (Value.float .f32)) ∧ v' ≠ .slice none 0 0 ∧ Below w.heap.size w w' := by
  have q54 : ∀ (w : World) (a : Option Addr) (n c n' c' : Nat), (binOp .eql 54 (.slice a n c) (.slice none n' c')).run Try.prog w = .ok (.bool a.isNone) w := fun w a n c n' c' => Lib.run_eql_slice_nil w _ _ a n c n' c' Try.underlying54
  obtain ⟨i0, hi, hz0, hz1, hz2⟩ := info_parts (P := Try.prog) (e := 22) (z := .float .f32 0) (size := 1) (bytes := 4) (by kernel_rfl)
  have A : RowKit.Hid (Reads w b off l) := hc
  clear hc
  go_enter Try.func90, Try.ntmps90
  go_wp2_with (at_builtin; refine wpList_append_own _ rfl _ _ 54 rfl w.heap.size 22 i0 (.float .f32 0) 1 4 Try.underlying54 hi hz0 hz1 hz2 rfl (by decide) _ _ _ rfl (World.ownsRow_made w #[] 0 (Nat.le_refl _) (Nat.zero_le _) rfl) ⟨b, off, none⟩ n c (l.map (Value.float .f32)) rfl ?qc1 ?qc2 ?qc3 ?qc4 ?qc5 ?qc6 ?_)
  case qc1 => simp; omega
  case qc2 =>
    intro j u hj
    rw [Addr.add_lit]
    refine Lib.cell?_alloc_some _ ?_
    simp only [List.getElem?_map] at hj
    obtain ⟨x, hx, rfl⟩ := Option.map_eq_some_iff.1 hj
    obtain ⟨hlt, hx2⟩ := List.getElem?_eq_some_iff.1 hx
    rw [← hx2]
    exact A.out j hlt
  case qc3 => intro u hu; obtain ⟨x, _, rfl⟩ := List.mem_map.1 hu; rfl
  case qc4 => unfold maxLen; omega
  case qc5 => omega
  case qc6 => simp
  intro v' w1 hown hgrow hnil
  go_wp2
  go_ret
  refine ⟨v', rfl, by simpa using hown, ?_, ?_⟩
  · exact hnil
  · exact ((Below.refl _ w).alloc (Nat.le_refl _) _).grown hgrow (by simp) (by intro k hk; simp [Value.ownBlock] at hk; omega)

theorem below_sort {B g : Nat} {w w1 w2 : World} (h : Below B w w1) (s : Sort1 g w1 w2) (hg : B ≤ g) : Below B w w2 :=
  h.trans ⟨s.os, s.tape, s.out, by rw [s.size]; exact Nat.le_refl _, fun k hk => s.other k (by omega)⟩
theorem below_drewN {B : Nat} {w w1 : World} (h : Below B w w1) (n : Nat) : Below B w (w1.drewN n) := ⟨h.os, h.tape, h.output, h.size, h.block⟩

theorem own_cells {w : World} {base : Nat} {e : TypeId} {v : Value} {n : Nat} {l : List Nat} (h : w.ownsRow base e 1 v n (l.map (Value.float .f32))) (hv : v ≠ .slice none 0 0) :
    ∃ g cap, v = .slice (some ⟨g, 0, none⟩) n cap ∧ base ≤ g ∧ n ≤ cap ∧ cap ≤ maxLen ∧ Cells w g 0 n (fun i => l.getD i 0) := by
  obtain ⟨g, cap, rfl, hb, _, hn, hm, hl, hH⟩ := Lib.holds_of_ownsRow h hv
  refine ⟨g, cap, rfl, hb, hn, hm, ?_, ?_⟩
  · intro i hi
    have := (hH i (by simp; omega)).1
    rw [this]
    simp [List.getD, List.getElem?_eq_getElem (show i < l.length by omega)]
  · intro i hi
    exact (hH i (by simp; omega)).2

set_option maxRecDepth 100000 in
set_option maxHeartbeats 2000000 in
theorem sortf_any (b off N cap : Nat) (d : Nat → Nat) (w : World) (hc : Cells w b off N d) (hd : ∀ x, x < N → d x < 4294967296) (hN : N ≤ 300) :
    Calls Try.prog 91 #[.slice (some ⟨b, off, none⟩) N cap, theCmp] w
      (fun e w' => ∃ d', Turns b off N w d' e w' ∧ Shuf 0 N d d' ∧ Srt d' 0 N) := by
  have HC := hid hc; clear hc
  have HD := hid hd; clear hd
  unfold theCmp
  go_enter Try.func91, Try.ntmps91
  go_wp2_with fail
  refine (stable_any b off N cap d w HC.out HD.out hN).mono ?_
  rintro e w' ⟨d', ⟨rfl, g1, g2⟩, g3, g4⟩
  go_wp2
  go_end0
  exact ⟨d', ⟨rfl, g1, g2⟩, g3, g4⟩

set_option maxRecDepth 100000 in
set_option maxHeartbeats 2000000 in
theorem middle_any (b off n c : Nat) (l : List Nat) (w : World) (hl : l.length = n) (h1 : 1 ≤ n) (hn : n ≤ 300) (hv : ∀ x, x < n → l.getD x 0 < 4294967296) (hc : Reads w b off l) :
    Calls Try.prog 51 #[.slice (some ⟨b, off, none⟩) n c] w fun e w' => ∃ d2, e = .returned (.tuple #[.float .f32 (cl (d2 ((n - 1) / 2))), .int .i64 0]) ∧ Shuf 0 n (fun i => l.getD i 0) d2 ∧ Srt d2 0 n ∧ Below w.heap.size w w' := by
  have HC := hid hc; clear hc
  have HV := hid hv; clear hv
  have HL := hid hl; clear hl
  have z0 : ((n : Int) == 0) = false := by rw [beq_eq_false_iff_ne]; omega
  obtain ⟨m, hm⟩ : ∃ m, m = (n - 1) / 2 := ⟨_, rfl⟩
  have z1 : ((n : Int) - 1) / 2 = (m : Int) := by omega
  have z2 : m < n := by omega
  rw [← hm]; clear hm
  go_enter Try.func51, Try.ntmps51
  go_wp2_with fail
  refine (clone_any b off n c l w HL.out hn HC.out).mono ?_
  rintro e w1 ⟨v', rfl, hown, hnn, hbel⟩
  obtain ⟨g, cap, rfl, hg, hcn, hcm, hcells⟩ := own_cells hown hnn
  have HB := hid hbel
  have HCE := hid hcells
  clear hown hnn hbel hcells
  go_wp2_with fail
  refine (sortf_any g 0 n cap _ w1 HCE.out HV.out hn).mono ?_
  rintro e w2 ⟨d2, ⟨rfl, g1, g2⟩, g3, g4⟩
  have ca := g1.cell m z2
  have HS := hid (below_sort HB.out g2 hg)
  have G3 := hid g3
  have G4 := hid g4
  clear g1 g2 g3 g4
  have e6 : (0 : Int) ≤ (m : Int) := by omega
  have e7 : (m : Int) < (n : Int) := by omega
  rw [Nat.zero_add] at ca
  go_wp2_with (go_at_call 17; refine (clean_any _ _).mono ?_; rintro e w' ⟨rfl, rfl⟩)
  go_ret2
  exact ⟨d2, rfl, G3.out, G4.out, HS.out⟩
end Go.Proofs.Ytbenjfipbeikmaa
