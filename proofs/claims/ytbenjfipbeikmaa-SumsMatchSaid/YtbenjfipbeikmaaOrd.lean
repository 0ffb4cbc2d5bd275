/-
  Contracts of the order of singles: places, the next ones, and how far two are apart.
-/
import Derived.Test.YtbenjfipbeikmaaCnt
namespace Go.Proofs.Ytbenjfipbeikmaa
open Go.RowKit

theorem ret_int {k : IntKind} {a b : Int} (h : a = b) : Ending.returned (.int k a) = .returned (.int k b) := by rw [h]
theorem ret_f {k : FloatKind} {a b : Nat} (h : a = b) : Ending.returned (.float k a) = .returned (.float k b) := by rw [h]

@[go_sem] theorem unary_neg_float (k : FloatKind) (b : Nat) : Op.unary .neg (.float k b) = pure (.float k (Op.negFloat k b)) := rfl

theorem cl_lt (b : Nat) (h : b < 4294967296) : cl b < 4294967296 := by
  unfold cl cn; split
  · decide
  · exact h
theorem cl_num {b : Nat} (h : isN .f32 b = false) : cl b = b := cn_of_not h

/-- The place of a single. -/
def plc (b : Nat) : Int := if b < 2147483648 then b else 2147483647 - b

theorem and31 (b : Nat) (h : b < 4294967296) : bits BinOp.and IntKind.i64 (b : Int) 2147483647 = (b : Int) % 2147483648 :=
  bits_mask .i64 63 (by decide) (fun n h0 h1 => by rw [IntKind.wrap_i64]; omega) 31 (by decide) b (by omega) (by omega)

theorem placen_any (b : Nat) (hb : b < 4294967296) (w : World) : Calls Try.prog 65 #[.float .f32 b] w fun e w' => e = .returned (.int .i64 (plc (cl b))) ∧ w = w' := by
  have hc := cl_lt b hb
  by_cases h : cl b < 2147483648
  · have hp : plc (cl b) = cl b := by unfold plc; rw [if_pos h]
    have HP := hid hp; clear hp
    have h1 : ¬ (2147483647 : Int) < (cl b : Int) := by omega
    go_enter Try.func65, Try.ntmps65
    go_wp2_with (go_at_call 19; refine (bits_any _ _).mono ?_; rintro e w' ⟨rfl, rfl⟩)
    go_ret
    exact ⟨by rw [HP.out]; rfl, rfl⟩
  · have hp : plc (cl b) = 2147483647 - (cl b : Int) := by unfold plc; rw [if_neg h]
    have HP := hid hp; clear hp
    have h1 : (2147483647 : Int) < (cl b : Int) := by omega
    have h2 := and31 (cl b) hc
    have h3 : (cl b : Int) % 2147483648 = (cl b : Int) - 2147483648 := by omega
    go_enter Try.func65, Try.ntmps65
    go_wp2_with (go_at_call 19; refine (bits_any _ _).mono ?_; rintro e w' ⟨rfl, rfl⟩)
    go_ret
    exact ⟨ret_int (by rw [HP.out]; omega), rfl⟩

theorem placer_any (b : Nat) (hb : b < 4294967296) (w : World) : Calls Try.prog 66 #[.float .f32 b] w fun e w' => e = .returned (.int .i64 (plc b)) ∧ w = w' := by
  by_cases h : b < 2147483648
  · have hp : plc b = b := by unfold plc; rw [if_pos h]
    have HP := hid hp; clear hp
    have h1 : ¬ (2147483648 : Int) ≤ (b : Int) := by omega
    go_enter Try.func66, Try.ntmps66
    go_wp2
    go_ret
    exact ⟨by rw [HP.out]; rfl, rfl⟩
  · have hp : plc b = 2147483647 - (b : Int) := by unfold plc; rw [if_neg h]
    have HP := hid hp; clear hp
    have h1 : (2147483648 : Int) ≤ (b : Int) := by omega
    go_enter Try.func66, Try.ntmps66
    go_wp2
    go_ret
    exact ⟨ret_int (by rw [HP.out]), rfl⟩

/-- The single at a place. -/
def unp (n : Int) : Nat := if n < 0 then (2147483647 - n).toNat else n.toNat

theorem neg31 (n : Nat) (h : n < 2147483648) : Op.negFloat .f32 n = n + 2147483648 := by
  show n ^^^ 2 ^ 31 = n + 2147483648
  have e : n ^^^ 2 ^ 31 = n ||| 2 ^ 31 := by
    apply Nat.eq_of_testBit_eq
    intro i
    rw [Nat.testBit_xor, Nat.testBit_or, Nat.testBit_two_pow]
    by_cases hi : 31 = i
    · subst hi
      rw [Nat.testBit_lt_two_pow (by omega : n < 2 ^ 31)]; rfl
    · simp [hi]
  rw [e, Nat.or_comm]
  have := Nat.two_pow_add_eq_or_of_lt (i := 31) (b := n) (by omega) 1
  rw [Nat.mul_one] at this
  omega

theorem atPlace_any (n : Int) (h1 : -2147483648 ≤ n) (h2 : n ≤ 2147483647) (w : World) : Calls Try.prog 67 #[.int .i64 n] w fun e w' => e = .returned (.float .f32 (unp n)) ∧ w = w' := by
  by_cases h : n < 0
  · have hp : unp n = (2147483647 - n).toNat := by unfold unp; rw [if_pos h]
    have HP := hid hp; clear hp
    have hn := neg31 (-1 - n).toNat (by omega)
    have HN := hid hn; clear hn
    go_enter Try.func67, Try.ntmps67
    go_wp2
    go_ret
    refine ⟨ret_f (k := .f32) (a := Op.negFloat .f32 (-1 - n).toNat) ?_, rfl⟩
    rw [HP.out, HN.out]; omega
  · have hp : unp n = n.toNat := by unfold unp; rw [if_neg h]
    have HP := hid hp; clear hp
    go_enter Try.func67, Try.ntmps67
    go_wp2
    go_ret
    exact ⟨by rw [HP.out]; rfl, rfl⟩

theorem plc_bounds (b : Nat) (hb : b < 4294967296) (h : isN .f32 b = false) : -2139095041 ≤ plc b ∧ plc b ≤ 2139095040 := by
  rw [isN32, decide_eq_false_iff_not] at h
  unfold plc; split <;> omega

/-- The next single, up or down. -/
def nxt (b : Nat) (up : Bool) : Nat :=
  if isN .f32 b = true then 2143289344 else
  if up = true then (if plc b < 2139095040 then unp (plc b + 1) else b) else if -2139095041 < plc b then unp (plc b - 1) else b


set_option maxRecDepth 100000 in
theorem nextn_true (b : Nat) (hb : b < 4294967296) (w : World) : Calls Try.prog 25 #[.float .f32 b, .bool true] w fun e w' => e = .returned (.float .f32 (nxt b true)) ∧ w = w' := by
  by_cases h : isN .f32 b = true
  · have h1 := ne_self .f32 b
    rw [h] at h1
    have hp : cl b = 2143289344 := cn_of_nan h
    have HP := hid hp; clear hp
    have hq : nxt b true = 2143289344 := by unfold nxt; rw [if_pos h]
    have HQ := hid hq; clear hq
    clear h
    go_enter Try.func25, Try.ntmps25
    go_wp2_with (first | (go_at_call 65; refine (placen_any _ hb _).mono ?_; rintro e w' ⟨rfl, rfl⟩) | (go_at_call 17; refine (clean_any _ _).mono ?_; rintro e w' ⟨rfl, rfl⟩))
    go_ret
    exact ⟨ret_f (by rw [HP.out, HQ.out]), rfl⟩
  · have h' : isN .f32 b = false := by simpa using h
    have h1 := ne_self .f32 b
    rw [h'] at h1
    have hb1 := plc_bounds b hb h'
    have hb2 := hb1.2
    have hb3 := hb1.1
    clear hb1
    have hp : cl b = b := cl_num h'
    by_cases h2 : plc b < 2139095040
    · have hq : nxt b true = unp (plc b + 1) := by unfold nxt; rw [if_neg (by simp [h'])]; rw [if_pos rfl, if_pos h2]
      have HQ := hid hq; clear hq
      clear h h'
      go_enter Try.func25, Try.ntmps25
      go_wp2_with (first | (go_at_call 65; refine (placen_any _ hb _).mono ?_; rintro e w' ⟨rfl, rfl⟩) | (go_at_call 67; refine (atPlace_any _ (by omega) (by omega) _).mono ?_; rintro e w' ⟨rfl, rfl⟩))
      go_ret
      exact ⟨ret_f HQ.out.symm, rfl⟩
    · have hq : nxt b true = b := by unfold nxt; rw [if_neg (by simp [h'])]; rw [if_pos rfl, if_neg h2]
      have HQ := hid hq; clear hq
      clear h h'
      go_enter Try.func25, Try.ntmps25
      go_wp2_with (first | (go_at_call 65; refine (placen_any _ hb _).mono ?_; rintro e w' ⟨rfl, rfl⟩))
      go_ret
      exact ⟨ret_f HQ.out.symm, rfl⟩

set_option maxRecDepth 100000 in
theorem nextn_false (b : Nat) (hb : b < 4294967296) (w : World) : Calls Try.prog 25 #[.float .f32 b, .bool false] w fun e w' => e = .returned (.float .f32 (nxt b false)) ∧ w = w' := by
  by_cases h : isN .f32 b = true
  · have h1 := ne_self .f32 b
    rw [h] at h1
    have hp : cl b = 2143289344 := cn_of_nan h
    have HP := hid hp; clear hp
    have hq : nxt b false = 2143289344 := by unfold nxt; rw [if_pos h]
    have HQ := hid hq; clear hq
    clear h
    go_enter Try.func25, Try.ntmps25
    go_wp2_with (first | (go_at_call 65; refine (placen_any _ hb _).mono ?_; rintro e w' ⟨rfl, rfl⟩) | (go_at_call 17; refine (clean_any _ _).mono ?_; rintro e w' ⟨rfl, rfl⟩))
    go_ret
    exact ⟨ret_f (by rw [HP.out, HQ.out]), rfl⟩
  · have h' : isN .f32 b = false := by simpa using h
    have h1 := ne_self .f32 b
    rw [h'] at h1
    have hb1 := plc_bounds b hb h'
    have hb2 := hb1.2
    have hb3 := hb1.1
    clear hb1
    have hp : cl b = b := cl_num h'
    by_cases h2 : -2139095041 < plc b
    · have hq : nxt b false = unp (plc b - 1) := by unfold nxt; rw [if_neg (by simp [h'])]; rw [if_neg (by simp), if_pos h2]
      have HQ := hid hq; clear hq
      clear h h'
      go_enter Try.func25, Try.ntmps25
      go_wp2_with (first | (go_at_call 65; refine (placen_any _ hb _).mono ?_; rintro e w' ⟨rfl, rfl⟩) | (go_at_call 67; refine (atPlace_any _ (by omega) (by omega) _).mono ?_; rintro e w' ⟨rfl, rfl⟩))
      go_ret
      exact ⟨ret_f HQ.out.symm, rfl⟩
    · have hq : nxt b false = b := by unfold nxt; rw [if_neg (by simp [h'])]; rw [if_neg (by simp), if_neg h2]
      have HQ := hid hq; clear hq
      clear h h'
      go_enter Try.func25, Try.ntmps25
      go_wp2_with (first | (go_at_call 65; refine (placen_any _ hb _).mono ?_; rintro e w' ⟨rfl, rfl⟩))
      go_ret
      exact ⟨ret_f HQ.out.symm, rfl⟩

set_option maxRecDepth 100000 in
theorem nextr_true (b : Nat) (hb : b < 4294967296) (w : World) : Calls Try.prog 26 #[.float .f32 b, .bool true] w fun e w' => e = .returned (.float .f32 (nxt b true)) ∧ w = w' := by
  by_cases h : isN .f32 b = true
  · have h1 := ne_self .f32 b
    rw [h] at h1
    have hq : nxt b true = 2143289344 := by unfold nxt; rw [if_pos h]
    have HQ := hid hq; clear hq
    clear h
    go_enter Try.func26, Try.ntmps26
    go_wp2_with (first | (go_at_call 64; refine (theNaN_any _).mono ?_; rintro e w' ⟨rfl, rfl⟩))
    go_ret
    exact ⟨ret_f HQ.out.symm, rfl⟩
  · have h' : isN .f32 b = false := by simpa using h
    have h1 := ne_self .f32 b
    rw [h'] at h1
    have hb1 := plc_bounds b hb h'
    have hb2 := hb1.2
    have hb3 := hb1.1
    clear hb1
    by_cases h2 : plc b < 2139095040
    · have hq : nxt b true = unp (plc b + 1) := by unfold nxt; rw [if_neg (by simp [h'])]; rw [if_pos rfl, if_pos h2]
      have HQ := hid hq; clear hq
      clear h h'
      by_cases h3 : 0 ≤ plc b + 1
      · have hu : unp (plc b + 1) = (plc b + 1).toNat := by unfold unp; rw [if_neg (by omega)]
        have HU := hid hu; clear hu
        go_enter Try.func26, Try.ntmps26
        go_wp2_with (first | (go_at_call 66; refine (placer_any _ hb _).mono ?_; rintro e w' ⟨rfl, rfl⟩))
        go_ret
        exact ⟨ret_f (by rw [HQ.out, HU.out] <;> omega), rfl⟩
      · have hu : unp (plc b + 1) = (2147483647 - (plc b + 1)).toNat := by unfold unp; rw [if_pos (by omega)]
        have HU := hid hu; clear hu
        go_enter Try.func26, Try.ntmps26
        go_wp2_with (first | (go_at_call 66; refine (placer_any _ hb _).mono ?_; rintro e w' ⟨rfl, rfl⟩))
        go_ret
        exact ⟨ret_f (by rw [HQ.out, HU.out] <;> omega), rfl⟩
    · have hq : nxt b true = b := by unfold nxt; rw [if_neg (by simp [h'])]; rw [if_pos rfl, if_neg h2]
      have HQ := hid hq; clear hq
      clear h h'
      go_enter Try.func26, Try.ntmps26
      go_wp2_with (first | (go_at_call 66; refine (placer_any _ hb _).mono ?_; rintro e w' ⟨rfl, rfl⟩))
      go_ret
      exact ⟨ret_f HQ.out.symm, rfl⟩

set_option maxRecDepth 100000 in
theorem nextr_false (b : Nat) (hb : b < 4294967296) (w : World) : Calls Try.prog 26 #[.float .f32 b, .bool false] w fun e w' => e = .returned (.float .f32 (nxt b false)) ∧ w = w' := by
  by_cases h : isN .f32 b = true
  · have h1 := ne_self .f32 b
    rw [h] at h1
    have hq : nxt b false = 2143289344 := by unfold nxt; rw [if_pos h]
    have HQ := hid hq; clear hq
    clear h
    go_enter Try.func26, Try.ntmps26
    go_wp2_with (first | (go_at_call 64; refine (theNaN_any _).mono ?_; rintro e w' ⟨rfl, rfl⟩))
    go_ret
    exact ⟨ret_f HQ.out.symm, rfl⟩
  · have h' : isN .f32 b = false := by simpa using h
    have h1 := ne_self .f32 b
    rw [h'] at h1
    have hb1 := plc_bounds b hb h'
    have hb2 := hb1.2
    have hb3 := hb1.1
    clear hb1
    by_cases h2 : -2139095041 < plc b
    · have hq : nxt b false = unp (plc b - 1) := by unfold nxt; rw [if_neg (by simp [h'])]; rw [if_neg (by simp), if_pos h2]
      have HQ := hid hq; clear hq
      clear h h'
      by_cases h3 : 0 ≤ plc b - 1
      · have hu : unp (plc b - 1) = (plc b - 1).toNat := by unfold unp; rw [if_neg (by omega)]
        have HU := hid hu; clear hu
        go_enter Try.func26, Try.ntmps26
        go_wp2_with (first | (go_at_call 66; refine (placer_any _ hb _).mono ?_; rintro e w' ⟨rfl, rfl⟩))
        go_ret
        exact ⟨ret_f (by rw [HQ.out, HU.out] <;> omega), rfl⟩
      · have hu : unp (plc b - 1) = (2147483647 - (plc b - 1)).toNat := by unfold unp; rw [if_pos (by omega)]
        have HU := hid hu; clear hu
        go_enter Try.func26, Try.ntmps26
        go_wp2_with (first | (go_at_call 66; refine (placer_any _ hb _).mono ?_; rintro e w' ⟨rfl, rfl⟩))
        go_ret
        exact ⟨ret_f (by rw [HQ.out, HU.out] <;> omega), rfl⟩
    · have hq : nxt b false = b := by unfold nxt; rw [if_neg (by simp [h'])]; rw [if_neg (by simp), if_neg h2]
      have HQ := hid hq; clear hq
      clear h h'
      go_enter Try.func26, Try.ntmps26
      go_wp2_with (first | (go_at_call 66; refine (placer_any _ hb _).mono ?_; rintro e w' ⟨rfl, rfl⟩))
      go_ret
      exact ⟨ret_f HQ.out.symm, rfl⟩

def apN (a b : Nat) : Int := if isN .f32 a = true ∨ isN .f32 b = true then 0 else plc b - plc a
def apB (a b : Nat) : Bool := !(isN .f32 a || isN .f32 b)

set_option maxRecDepth 100000 in
theorem apartn_any (a b : Nat) (ha : a < 4294967296) (hb : b < 4294967296) (w : World) : Calls Try.prog 23 #[.float .f32 a, .float .f32 b] w fun e w' => e = .returned (.tuple #[.int .i64 (apN a b), .bool (apB a b)]) ∧ w = w' := by
  have ea := ne_self .f32 a
  have eb := ne_self .f32 b
  by_cases h : isN .f32 a = true
  · rw [h] at ea
    have q1 : apN a b = 0 := by unfold apN; rw [if_pos (Or.inl h)]
    have q2 : apB a b = false := by unfold apB; rw [h]; rfl
    have Q1 := hid q1; clear q1
    have Q2 := hid q2; clear q2
    clear eb h
    go_enter Try.func23, Try.ntmps23
    go_wp2
    go_ret2
    exact ⟨by rw [Q1.out, Q2.out]; rfl, rfl⟩
  · have h' : isN .f32 a = false := by simpa using h
    rw [h'] at ea
    by_cases g : isN .f32 b = true
    · rw [g] at eb
      have q1 : apN a b = 0 := by unfold apN; rw [if_pos (Or.inr g)]
      have q2 : apB a b = false := by unfold apB; rw [g, h']; rfl
      have Q1 := hid q1; clear q1
      have Q2 := hid q2; clear q2
      clear g h h'
      go_enter Try.func23, Try.ntmps23
      go_wp2
      go_ret2
      exact ⟨by rw [Q1.out, Q2.out]; rfl, rfl⟩
    · have g' : isN .f32 b = false := by simpa using g
      rw [g'] at eb
      have q1 : apN a b = plc b - plc a := by unfold apN; rw [if_neg (by simp [h', g'])]
      have q2 : apB a b = true := by unfold apB; rw [h', g']; rfl
      have Q1 := hid q1; clear q1
      have Q2 := hid q2; clear q2
      have C1 := hid (cl_num h')
      have C2 := hid (cl_num g')
      have hb1 := plc_bounds b hb g'
      have ha1 := plc_bounds a ha h'
      have hb2 := hb1.1
      have hb3 := hb1.2
      have ha2 := ha1.1
      have ha3 := ha1.2
      clear hb1 ha1 g h h' g'
      go_enter Try.func23, Try.ntmps23
      go_wp2_with fail
      refine (placen_any _ hb _).mono ?_
      rintro e w' ⟨rfl, rfl⟩
      rw [C2.out]
      go_wp2_with fail
      refine (placen_any _ ha _).mono ?_
      rintro e w' ⟨rfl, rfl⟩
      rw [C1.out]
      go_wp2
      go_ret2
      exact ⟨by rw [Q1.out, Q2.out]; rfl, rfl⟩

set_option maxRecDepth 100000 in
theorem apartr_any (a b : Nat) (ha : a < 4294967296) (hb : b < 4294967296) (w : World) : Calls Try.prog 24 #[.float .f32 a, .float .f32 b] w fun e w' => e = .returned (.tuple #[.int .i64 (apN a b), .bool (apB a b)]) ∧ w = w' := by
  have ea := ne_self .f32 a
  have eb := ne_self .f32 b
  by_cases h : isN .f32 a = true
  · rw [h] at ea
    have q1 : apN a b = 0 := by unfold apN; rw [if_pos (Or.inl h)]
    have q2 : apB a b = false := by unfold apB; rw [h]; rfl
    have Q1 := hid q1; clear q1
    have Q2 := hid q2; clear q2
    clear eb h
    go_enter Try.func24, Try.ntmps24
    go_wp2
    go_ret2
    exact ⟨by rw [Q1.out, Q2.out]; rfl, rfl⟩
  · have h' : isN .f32 a = false := by simpa using h
    rw [h'] at ea
    by_cases g : isN .f32 b = true
    · rw [g] at eb
      have q1 : apN a b = 0 := by unfold apN; rw [if_pos (Or.inr g)]
      have q2 : apB a b = false := by unfold apB; rw [g, h']; rfl
      have Q1 := hid q1; clear q1
      have Q2 := hid q2; clear q2
      clear g h h'
      go_enter Try.func24, Try.ntmps24
      go_wp2
      go_ret2
      exact ⟨by rw [Q1.out, Q2.out]; rfl, rfl⟩
    · have g' : isN .f32 b = false := by simpa using g
      rw [g'] at eb
      have q1 : apN a b = plc b - plc a := by unfold apN; rw [if_neg (by simp [h', g'])]
      have q2 : apB a b = true := by unfold apB; rw [h', g']; rfl
      have Q1 := hid q1; clear q1
      have Q2 := hid q2; clear q2
      have C1 := hid (cl_num h')
      have C2 := hid (cl_num g')
      have hb1 := plc_bounds b hb g'
      have ha1 := plc_bounds a ha h'
      have hb2 := hb1.1
      have hb3 := hb1.2
      have ha2 := ha1.1
      have ha3 := ha1.2
      clear hb1 ha1 g h h' g'
      go_enter Try.func24, Try.ntmps24
      go_wp2_with fail
      refine (placer_any _ hb _).mono ?_
      rintro e w' ⟨rfl, rfl⟩
      skip
      go_wp2_with fail
      refine (placer_any _ ha _).mono ?_
      rintro e w' ⟨rfl, rfl⟩
      skip
      go_wp2
      go_ret2
      exact ⟨by rw [Q1.out, Q2.out]; rfl, rfl⟩

set_option maxRecDepth 100000 in
theorem orders_any (a b : Nat) (ha : (Lit.float .f32 a).wf = true) (hb : (Lit.float .f32 b).wf = true) (w : World) : Calls Try.prog 4 #[.float .f32 a, .float .f32 b] w fun e w' => e = .returned (.bool true) ∧ Grown w w' := by
  have ha' : a < 4294967296 := by simpa [Lit.wf] using ha
  have hb' : b < 4294967296 := by simpa [Lit.wf] using hb
  clear ha hb
  go_enter Try.func4, Try.ntmps4
  go_wp2_with (first | (go_at_call 23; refine (apartn_any _ _ ha' hb' _).mono ?_; rintro e w' ⟨rfl, rfl⟩) | (go_at_call 24; refine (apartr_any _ _ ha' hb' _).mono ?_; rintro e w' ⟨rfl, rfl⟩) | (go_at_call 15; refine (counts_any _).mono ?_; rintro e w' ⟨rfl, n1, rfl⟩))
  refine (nextn_true _ ha' _).mono ?_; rintro e w' ⟨rfl, rfl⟩
  go_wp2_with fail
  refine (nextr_true _ ha' _).mono ?_; rintro e w' ⟨rfl, rfl⟩
  go_wp2_with fail
  refine (same_yes _ _ rfl _).mono ?_; rintro e w' ⟨rfl, rfl⟩
  go_wp2_with fail
  refine (nextn_false _ hb' _).mono ?_; rintro e w' ⟨rfl, rfl⟩
  go_wp2_with fail
  refine (nextr_false _ hb' _).mono ?_; rintro e w' ⟨rfl, rfl⟩
  go_wp2_with fail
  refine (same_yes _ _ rfl _).mono ?_; rintro e w' ⟨rfl, rfl⟩
  go_wp2
  go_ret
  exact ⟨rfl, grown_drewN (Grown.refl _) n1⟩
end Go.Proofs.Ytbenjfipbeikmaa
