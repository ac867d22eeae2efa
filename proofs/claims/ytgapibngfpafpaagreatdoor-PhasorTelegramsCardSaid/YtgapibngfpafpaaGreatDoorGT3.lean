/-
  The contract of bipole.bipoleref01.Decode.
  The contract of bipole.bipoleref01.Encode.
  The contract of bipole.bipoleref01.CheckTelegram.
  The contract of bipole.bipoleref01.CheckRange.
  The contract of bipole.phasor.Decode.
  The contract of bipole.phasor.Encode.
  The contract of bipole.phasor.CheckTelegram.
  The contract of bipole.check.Range.
  Contracts: what is answered.
  Contracts: what is answered.
-/
import Derived.Test.YtgapibngfpafpaaGreatDoorGT1
import Derived.Test.YtgapibngfpafpaaGreatDoorGT2
import Derived.Test.YtgapibngfpafpaaGreatDoorProg
section
set_option linter.all false
set_option maxRecDepth 1000000
open Go.RowKit
namespace Go.Proofs.YtgapibngfpafpaaGreatDoor
open Mini
theorem gsz : Tryz.prog.globals.size = 6 := by kernel_rfl
theorem gfol : Tryz.prog.follows .mixedOrders = true := by kernel_rfl
theorem bl (w : World) : Holds Tryz.prog (noTabs 6) w := gsz ▸ noTabs_holds w

theorem wi (x : Int) (h : -9223372036854775808 ≤ x ∧ x ≤ 9223372036854775807) : IntKind.i64.wrap x = x := IntWalk.i64_in _ (by omega)
/-- The first of six errors. -/
def th6 (a b c d e f : Int) : Int := if a = 0 then (if b = 0 then (if c = 0 then (if d = 0 then (if e = 0 then f else e) else d) else c) else b) else a
def cz (e x : Int) : Int := if e = 0 then x else 0
def st (x b : Int) : Int := (263 * x + b) % 16777199
def inS (x : Int) : Prop := 0 ≤ x ∧ x < 16777199
def inB (x : Int) : Prop := 0 ≤ x ∧ x < 256
theorem inS_st {x b : Int} : inS (st x b) := ⟨Int.emod_nonneg _ (by decide), Int.emod_lt_of_pos _ (by decide)⟩
theorem inB_mod {x : Int} : inB (x % 256) := ⟨Int.emod_nonneg _ (by decide), Int.emod_lt_of_pos _ (by decide)⟩
theorem wb {b : Int} (h : inB b) : IntKind.i64.wrap b = b := wi _ (by unfold inB at h; omega)
theorem rs {x b : Int} (hx : inS x) (hb : inB b) : Int.tmod (IntKind.i64.wrap ((IntKind.i64.wrap ((263 : Int) * x)) + (IntKind.i64.wrap b))) (16777199 : Int) = st x b := by
  rw [wb hb, wi (263 * x) (by unfold inS at hx; omega), wi _ (by unfold inS at hx; unfold inB at hb; omega), Int.tmod_eq_emod_of_nonneg (by unfold inS at hx; unfold inB at hb; omega)]
  rfl
theorem rs1 {b : Int} (hb : inB b) : Int.tmod (IntKind.i64.wrap ((263 : Int) + (IntKind.i64.wrap b))) (16777199 : Int) = st 1 b := by
  rw [wb hb, wi _ (by unfold inB at hb; omega), Int.tmod_eq_emod_of_nonneg (by unfold inB at hb; omega)]
  rfl
theorem rs2 {b : Int} (hb : inB b) : Int.tmod (IntKind.i64.wrap ((115720 : Int) + (IntKind.i64.wrap b))) (16777199 : Int) = st 440 b := by
  rw [wb hb, wi _ (by unfold inB at hb; omega), Int.tmod_eq_emod_of_nonneg (by unfold inB at hb; omega)]
  rfl
theorem w8 (x : Int) : IntKind.u8.wrap x = x % 256 := by simp [IntKind.wrap, IntKind.bits, IntKind.signed]
theorem w16 (x : Int) : IntKind.u16.wrap x = x % 65536 := by simp [IntKind.wrap, IntKind.bits, IntKind.signed]
theorem w32 {x : Int} (h : inS x) : IntKind.u32.wrap x = x := by simp [IntKind.wrap, IntKind.bits, IntKind.signed]; unfold inS at h; omega
theorem wS {x : Int} (h : inS x) : IntKind.i64.wrap x = x := wi _ (by unfold inS at h; omega)
theorem f8 (x : Int) : Int.fdiv x (256 : Int) = x / 256 := Int.fdiv_eq_ediv_of_nonneg _ (by decide)
theorem f16 (x : Int) : Int.fdiv x (65536 : Int) = x / 65536 := Int.fdiv_eq_ediv_of_nonneg _ (by decide)
theorem f24 (x : Int) : Int.fdiv x (16777216 : Int) = x / 16777216 := Int.fdiv_eq_ediv_of_nonneg _ (by decide)
theorem f1 (x : Int) : Int.fdiv x (1 : Int) = x := Int.fdiv_one x
theorem m1 (x : Int) : x % 65536 / 256 % 256 = x / 256 % 256 := by omega
theorem m2 (x : Int) : x % 65536 % 256 = x % 256 := by omega
/-- The checksum of a telegram's bytes. -/
def csT (t0 t1 t2 t3 t4 t5 : Int) : Int := st (st (st (st (st (st (st (st (st (st (st 440 (t0 % 256)) (t1 / 256 % 256)) (t1 % 256)) (t2 / 256 % 256)) (t2 % 256)) (t3 / 256 % 256)) (t3 % 256)) (t4 / 256 % 256)) (t4 % 256)) (t5 / 256 % 256)) (t5 % 256)
theorem inS_csT {t0 t1 t2 t3 t4 t5 : Int} : inS (csT t0 t1 t2 t3 t4 t5) := inS_st
theorem csT_eq (t0 t1 t2 t3 t4 t5 : Int) : st (st (st (st (st (st (st (st (st (st (st 440 (t0 % 256)) (t1 / 256 % 256)) (t1 % 256)) (t2 / 256 % 256)) (t2 % 256)) (t3 / 256 % 256)) (t3 % 256)) (t4 / 256 % 256)) (t4 % 256)) (t5 / 256 % 256)) (t5 % 256) = csT t0 t1 t2 t3 t4 t5 := rfl
def csY (y0 y1 y2 y3 y4 y5 y6 y7 y8 y9 y10 y11 : Int) : Int := st (st (st (st (st (st (st (st (st (st (st (st 1 y0) y1) y2) y3) y4) y5) y6) y7) y8) y9) y10) y11
theorem csY_eq (y0 y1 y2 y3 y4 y5 y6 y7 y8 y9 y10 y11 : Int) : st (st (st (st (st (st (st (st (st (st (st (st 1 y0) y1) y2) y3) y4) y5) y6) y7) y8) y9) y10) y11 = csY y0 y1 y2 y3 y4 y5 y6 y7 y8 y9 y10 y11 := rfl
theorem or_nat (a b : Nat) (hb : b < 256) : a * 256 ||| b = a * 256 + b := by
  have := Nat.shiftLeft_add_eq_or_of_lt (show b < 2 ^ 8 from hb) a
  rw [Nat.shiftLeft_eq] at this
  exact this.symm
theorem ofI (x : Int) (h : 0 ≤ x ∧ x < 9223372036854775808) : (BitVec.ofInt (64 : Nat) x).toNat = x.toNat := by
  have e : ((2 ^ 64 : Nat) : Int) = 18446744073709551616 := by decide
  rw [BitVec.toNat_ofInt, Int.emod_eq_of_lt (by omega) (by rw [e]; omega)]
theorem orA {a b : Int} (ha : 0 ≤ a ∧ a < 4294967296) (hb : 0 ≤ b ∧ b < 256) : IntKind.i64.wrap (((BitVec.toNat ((BitVec.ofInt (64 : Nat) (IntKind.i64.wrap (a * (256 : Int)))) ||| (BitVec.ofInt (64 : Nat) (IntKind.i64.wrap b)))) : Nat) : Int) = a * 256 + b := by
  rw [wi (a * 256) (by omega), wi b (by omega), BitVec.toNat_or, ofI _ (by omega), ofI _ (by omega)]
  have h1 : (a * 256).toNat = a.toNat * 256 := by omega
  rw [h1, or_nat _ _ (by omega), wi _ (by omega)]
  omega
theorem or0 {b : Int} (hb : 0 ≤ b ∧ b < 256) : IntKind.i64.wrap (((BitVec.toNat ((BitVec.ofInt (64 : Nat) (0 : Int)) ||| (BitVec.ofInt (64 : Nat) (IntKind.i64.wrap b)))) : Nat) : Int) = b := by
  rw [wi b (by omega), BitVec.toNat_or, ofI _ (by omega), ofI _ (by omega)]
  simp
  rw [wi _ (by omega)]
  omega
theorem nrm2 (a b : Int) : 256 * a + b = a * 256 + b := by omega
def sg (x : Int) : Int := if x < 32768 then x else x - 65536
theorem wsg {x : Int} (h : 0 ≤ x ∧ x < 65536) : IntKind.i16.wrap x = sg x := by
  simp only [IntKind.wrap, IntKind.bits, IntKind.signed, sg]
  have : x % (2 ^ 16 : Int) = x := Int.emod_eq_of_lt h.1 (by omega)
  simp only [this]
  by_cases c : x < 32768
  · rw [if_neg (by simp; omega), if_pos c]
  · rw [if_pos (by simp; omega), if_neg c]; rfl
theorem sg_in {x : Int} (h : 0 ≤ x ∧ x < 65536) : IntKind.i64.wrap (sg x) = sg x := wi _ (by unfold sg; split <;> omega)
/-- The error of a frame. -/
def fe (y0 c n : Int) : Int := if y0 = 177 then (if c = n then 0 else 27) else 1

def c_range : Con := ⟨23, [.int .i64, .int .i64, .int .i64], fun ns => match ns with | [n, lo, hi] => .int .i64 (Pl.cr n lo hi) | _ => .bool true, fun ns => match ns with | [n, lo, hi] => True | _ => True⟩
def c_rrange : Con := ⟨15, [.int .i64, .int .i64, .int .i64], fun ns => match ns with | [n, lo, hi] => .int .i64 (Pl.cr n lo hi) | _ => .bool true, fun ns => match ns with | [n, lo, hi] => True | _ => True⟩
def c_checkT : Con := ⟨9, [.agg [.i64, .i64, .i64, .i64, .i64, .i64]], fun ns => match ns with | [t0, t1, t2, t3, t4, t5] => .int .i64 (th6 (Pl.cr t0 0 255) (Pl.cr t1 0 65535) (Pl.cr t2 (-32768) 32767) (Pl.cr t3 (-32768) 32767) (Pl.cr t4 (-32768) 32767) (Pl.cr t5 (-32768) 32767)) | _ => .bool true, fun ns => match ns with | [t0, t1, t2, t3, t4, t5] => True | _ => True⟩
def c_rcheckT : Con := ⟨6, [.agg [.i64, .i64, .i64, .i64, .i64, .i64]], fun ns => match ns with | [t0, t1, t2, t3, t4, t5] => .int .i64 (th6 (Pl.cr t0 0 255) (Pl.cr t1 0 65535) (Pl.cr t2 (-32768) 32767) (Pl.cr t3 (-32768) 32767) (Pl.cr t4 (-32768) 32767) (Pl.cr t5 (-32768) 32767)) | _ => .bool true, fun ns => match ns with | [t0, t1, t2, t3, t4, t5] => True | _ => True⟩
def c_rencode : Con := ⟨7, [.agg [.i64, .i64, .i64, .i64, .i64, .i64]], fun ns => match ns with | [t0, t1, t2, t3, t4, t5] => .agg #[.int .u8 (177), .int .u8 (t0 % 256), .int .u8 (t1 / 256 % 256), .int .u8 (t1 % 256), .int .u8 (t2 / 256 % 256), .int .u8 (t2 % 256), .int .u8 (t3 / 256 % 256), .int .u8 (t3 % 256), .int .u8 (t4 / 256 % 256), .int .u8 (t4 % 256), .int .u8 (t5 / 256 % 256), .int .u8 (t5 % 256), .int .u8 ((csT t0 t1 t2 t3 t4 t5) / 16777216 % 256), .int .u8 ((csT t0 t1 t2 t3 t4 t5) / 65536 % 256), .int .u8 ((csT t0 t1 t2 t3 t4 t5) / 256 % 256), .int .u8 ((csT t0 t1 t2 t3 t4 t5) % 256)] | _ => .bool true, fun ns => match ns with | [t0, t1, t2, t3, t4, t5] => True | _ => True⟩
def c_encode : Con := ⟨4, [.agg [.i64, .i64, .i64, .i64, .i64, .i64]], fun ns => match ns with | [t0, t1, t2, t3, t4, t5] => .tuple #[.agg #[.int .u8 (cz (th6 (Pl.cr t0 0 255) (Pl.cr t1 0 65535) (Pl.cr t2 (-32768) 32767) (Pl.cr t3 (-32768) 32767) (Pl.cr t4 (-32768) 32767) (Pl.cr t5 (-32768) 32767)) (177)), .int .u8 (cz (th6 (Pl.cr t0 0 255) (Pl.cr t1 0 65535) (Pl.cr t2 (-32768) 32767) (Pl.cr t3 (-32768) 32767) (Pl.cr t4 (-32768) 32767) (Pl.cr t5 (-32768) 32767)) (t0 % 256)), .int .u8 (cz (th6 (Pl.cr t0 0 255) (Pl.cr t1 0 65535) (Pl.cr t2 (-32768) 32767) (Pl.cr t3 (-32768) 32767) (Pl.cr t4 (-32768) 32767) (Pl.cr t5 (-32768) 32767)) (t1 / 256 % 256)), .int .u8 (cz (th6 (Pl.cr t0 0 255) (Pl.cr t1 0 65535) (Pl.cr t2 (-32768) 32767) (Pl.cr t3 (-32768) 32767) (Pl.cr t4 (-32768) 32767) (Pl.cr t5 (-32768) 32767)) (t1 % 256)), .int .u8 (cz (th6 (Pl.cr t0 0 255) (Pl.cr t1 0 65535) (Pl.cr t2 (-32768) 32767) (Pl.cr t3 (-32768) 32767) (Pl.cr t4 (-32768) 32767) (Pl.cr t5 (-32768) 32767)) (t2 / 256 % 256)), .int .u8 (cz (th6 (Pl.cr t0 0 255) (Pl.cr t1 0 65535) (Pl.cr t2 (-32768) 32767) (Pl.cr t3 (-32768) 32767) (Pl.cr t4 (-32768) 32767) (Pl.cr t5 (-32768) 32767)) (t2 % 256)), .int .u8 (cz (th6 (Pl.cr t0 0 255) (Pl.cr t1 0 65535) (Pl.cr t2 (-32768) 32767) (Pl.cr t3 (-32768) 32767) (Pl.cr t4 (-32768) 32767) (Pl.cr t5 (-32768) 32767)) (t3 / 256 % 256)), .int .u8 (cz (th6 (Pl.cr t0 0 255) (Pl.cr t1 0 65535) (Pl.cr t2 (-32768) 32767) (Pl.cr t3 (-32768) 32767) (Pl.cr t4 (-32768) 32767) (Pl.cr t5 (-32768) 32767)) (t3 % 256)), .int .u8 (cz (th6 (Pl.cr t0 0 255) (Pl.cr t1 0 65535) (Pl.cr t2 (-32768) 32767) (Pl.cr t3 (-32768) 32767) (Pl.cr t4 (-32768) 32767) (Pl.cr t5 (-32768) 32767)) (t4 / 256 % 256)), .int .u8 (cz (th6 (Pl.cr t0 0 255) (Pl.cr t1 0 65535) (Pl.cr t2 (-32768) 32767) (Pl.cr t3 (-32768) 32767) (Pl.cr t4 (-32768) 32767) (Pl.cr t5 (-32768) 32767)) (t4 % 256)), .int .u8 (cz (th6 (Pl.cr t0 0 255) (Pl.cr t1 0 65535) (Pl.cr t2 (-32768) 32767) (Pl.cr t3 (-32768) 32767) (Pl.cr t4 (-32768) 32767) (Pl.cr t5 (-32768) 32767)) (t5 / 256 % 256)), .int .u8 (cz (th6 (Pl.cr t0 0 255) (Pl.cr t1 0 65535) (Pl.cr t2 (-32768) 32767) (Pl.cr t3 (-32768) 32767) (Pl.cr t4 (-32768) 32767) (Pl.cr t5 (-32768) 32767)) (t5 % 256)), .int .u8 (cz (th6 (Pl.cr t0 0 255) (Pl.cr t1 0 65535) (Pl.cr t2 (-32768) 32767) (Pl.cr t3 (-32768) 32767) (Pl.cr t4 (-32768) 32767) (Pl.cr t5 (-32768) 32767)) ((csT t0 t1 t2 t3 t4 t5) / 16777216 % 256)), .int .u8 (cz (th6 (Pl.cr t0 0 255) (Pl.cr t1 0 65535) (Pl.cr t2 (-32768) 32767) (Pl.cr t3 (-32768) 32767) (Pl.cr t4 (-32768) 32767) (Pl.cr t5 (-32768) 32767)) ((csT t0 t1 t2 t3 t4 t5) / 65536 % 256)), .int .u8 (cz (th6 (Pl.cr t0 0 255) (Pl.cr t1 0 65535) (Pl.cr t2 (-32768) 32767) (Pl.cr t3 (-32768) 32767) (Pl.cr t4 (-32768) 32767) (Pl.cr t5 (-32768) 32767)) ((csT t0 t1 t2 t3 t4 t5) / 256 % 256)), .int .u8 (cz (th6 (Pl.cr t0 0 255) (Pl.cr t1 0 65535) (Pl.cr t2 (-32768) 32767) (Pl.cr t3 (-32768) 32767) (Pl.cr t4 (-32768) 32767) (Pl.cr t5 (-32768) 32767)) ((csT t0 t1 t2 t3 t4 t5) % 256))], .int .i64 (th6 (Pl.cr t0 0 255) (Pl.cr t1 0 65535) (Pl.cr t2 (-32768) 32767) (Pl.cr t3 (-32768) 32767) (Pl.cr t4 (-32768) 32767) (Pl.cr t5 (-32768) 32767))] | _ => .bool true, fun ns => match ns with | [t0, t1, t2, t3, t4, t5] => True | _ => True⟩
def c_rdecode : Con := ⟨8, [.agg [.u8, .u8, .u8, .u8, .u8, .u8, .u8, .u8, .u8, .u8, .u8, .u8, .u8, .u8, .u8, .u8]], fun ns => match ns with | [y0, y1, y2, y3, y4, y5, y6, y7, y8, y9, y10, y11, y12, y13, y14, y15] => .tuple #[.agg #[.int .i64 (cz (fe y0 (csY y0 y1 y2 y3 y4 y5 y6 y7 y8 y9 y10 y11) (((y12 * 256 + y13) * 256 + y14) * 256 + y15)) (y1)), .int .i64 (cz (fe y0 (csY y0 y1 y2 y3 y4 y5 y6 y7 y8 y9 y10 y11) (((y12 * 256 + y13) * 256 + y14) * 256 + y15)) (y2 * 256 + y3)), .int .i64 (cz (fe y0 (csY y0 y1 y2 y3 y4 y5 y6 y7 y8 y9 y10 y11) (((y12 * 256 + y13) * 256 + y14) * 256 + y15)) (sg (y4 * 256 + y5))), .int .i64 (cz (fe y0 (csY y0 y1 y2 y3 y4 y5 y6 y7 y8 y9 y10 y11) (((y12 * 256 + y13) * 256 + y14) * 256 + y15)) (sg (y6 * 256 + y7))), .int .i64 (cz (fe y0 (csY y0 y1 y2 y3 y4 y5 y6 y7 y8 y9 y10 y11) (((y12 * 256 + y13) * 256 + y14) * 256 + y15)) (sg (y8 * 256 + y9))), .int .i64 (cz (fe y0 (csY y0 y1 y2 y3 y4 y5 y6 y7 y8 y9 y10 y11) (((y12 * 256 + y13) * 256 + y14) * 256 + y15)) (sg (y10 * 256 + y11)))], .int .i64 (fe y0 (csY y0 y1 y2 y3 y4 y5 y6 y7 y8 y9 y10 y11) (((y12 * 256 + y13) * 256 + y14) * 256 + y15))] | _ => .bool true, fun ns => match ns with | [y0, y1, y2, y3, y4, y5, y6, y7, y8, y9, y10, y11, y12, y13, y14, y15] => (0 ≤ y0 ∧ y0 < 256) ∧ (0 ≤ y1 ∧ y1 < 256) ∧ (0 ≤ y2 ∧ y2 < 256) ∧ (0 ≤ y3 ∧ y3 < 256) ∧ (0 ≤ y4 ∧ y4 < 256) ∧ (0 ≤ y5 ∧ y5 < 256) ∧ (0 ≤ y6 ∧ y6 < 256) ∧ (0 ≤ y7 ∧ y7 < 256) ∧ (0 ≤ y8 ∧ y8 < 256) ∧ (0 ≤ y9 ∧ y9 < 256) ∧ (0 ≤ y10 ∧ y10 < 256) ∧ (0 ≤ y11 ∧ y11 < 256) ∧ (0 ≤ y12 ∧ y12 < 256) ∧ (0 ≤ y13 ∧ y13 < 256) ∧ (0 ≤ y14 ∧ y14 < 256) ∧ (0 ≤ y15 ∧ y15 < 256) | _ => True⟩
def c_decode : Con := ⟨5, [.agg [.u8, .u8, .u8, .u8, .u8, .u8, .u8, .u8, .u8, .u8, .u8, .u8, .u8, .u8, .u8, .u8]], fun ns => match ns with | [y0, y1, y2, y3, y4, y5, y6, y7, y8, y9, y10, y11, y12, y13, y14, y15] => .tuple #[.agg #[.int .i64 (cz (fe y0 (csY y0 y1 y2 y3 y4 y5 y6 y7 y8 y9 y10 y11) (((y12 * 256 + y13) * 256 + y14) * 256 + y15)) (y1)), .int .i64 (cz (fe y0 (csY y0 y1 y2 y3 y4 y5 y6 y7 y8 y9 y10 y11) (((y12 * 256 + y13) * 256 + y14) * 256 + y15)) (y2 * 256 + y3)), .int .i64 (cz (fe y0 (csY y0 y1 y2 y3 y4 y5 y6 y7 y8 y9 y10 y11) (((y12 * 256 + y13) * 256 + y14) * 256 + y15)) (sg (y4 * 256 + y5))), .int .i64 (cz (fe y0 (csY y0 y1 y2 y3 y4 y5 y6 y7 y8 y9 y10 y11) (((y12 * 256 + y13) * 256 + y14) * 256 + y15)) (sg (y6 * 256 + y7))), .int .i64 (cz (fe y0 (csY y0 y1 y2 y3 y4 y5 y6 y7 y8 y9 y10 y11) (((y12 * 256 + y13) * 256 + y14) * 256 + y15)) (sg (y8 * 256 + y9))), .int .i64 (cz (fe y0 (csY y0 y1 y2 y3 y4 y5 y6 y7 y8 y9 y10 y11) (((y12 * 256 + y13) * 256 + y14) * 256 + y15)) (sg (y10 * 256 + y11)))], .int .i64 (fe y0 (csY y0 y1 y2 y3 y4 y5 y6 y7 y8 y9 y10 y11) (((y12 * 256 + y13) * 256 + y14) * 256 + y15))] | _ => .bool true, fun ns => match ns with | [y0, y1, y2, y3, y4, y5, y6, y7, y8, y9, y10, y11, y12, y13, y14, y15] => (0 ≤ y0 ∧ y0 < 256) ∧ (0 ≤ y1 ∧ y1 < 256) ∧ (0 ≤ y2 ∧ y2 < 256) ∧ (0 ≤ y3 ∧ y3 < 256) ∧ (0 ≤ y4 ∧ y4 < 256) ∧ (0 ≤ y5 ∧ y5 < 256) ∧ (0 ≤ y6 ∧ y6 < 256) ∧ (0 ≤ y7 ∧ y7 < 256) ∧ (0 ≤ y8 ∧ y8 < 256) ∧ (0 ≤ y9 ∧ y9 < 256) ∧ (0 ≤ y10 ∧ y10 < 256) ∧ (0 ≤ y11 ∧ y11 < 256) ∧ (0 ≤ y12 ∧ y12 < 256) ∧ (0 ≤ y13 ∧ y13 < 256) ∧ (0 ≤ y14 ∧ y14 < 256) ∧ (0 ≤ y15 ∧ y15 < 256) | _ => True⟩
noncomputable def x_range : CallS := kAll []
noncomputable def range_e0 (n lo hi : Int) : Option OutS := evFS Tryz.prog x_range 1000 23 #[.int .i64 n, .int .i64 lo, .int .i64 hi] (noTabs 6) ⟨[0, 0, 0, 1, 1], True⟩
noncomputable def range_e1 (n lo hi : Int) : Option OutS := evFS Tryz.prog x_range 1000 23 #[.int .i64 n, .int .i64 lo, .int .i64 hi] (noTabs 6) ⟨[1, 1, 1, 0, 1], True⟩
noncomputable def range_e2 (n lo hi : Int) : Option OutS := evFS Tryz.prog x_range 1000 23 #[.int .i64 n, .int .i64 lo, .int .i64 hi] (noTabs 6) ⟨[1, 1, 1, 0, 0], True⟩
noncomputable def x_rrange : CallS := kAll []
noncomputable def rrange_e0 (n lo hi : Int) : Option OutS := evFS Tryz.prog x_rrange 1000 15 #[.int .i64 n, .int .i64 lo, .int .i64 hi] (noTabs 6) ⟨[0, 0, 0, 1, 1], True⟩
noncomputable def rrange_e1 (n lo hi : Int) : Option OutS := evFS Tryz.prog x_rrange 1000 15 #[.int .i64 n, .int .i64 lo, .int .i64 hi] (noTabs 6) ⟨[1, 1, 1, 0, 1], True⟩
noncomputable def rrange_e2 (n lo hi : Int) : Option OutS := evFS Tryz.prog x_rrange 1000 15 #[.int .i64 n, .int .i64 lo, .int .i64 hi] (noTabs 6) ⟨[1, 1, 1, 0, 0], True⟩
noncomputable def x_checkT : CallS := kAll [c_range]
noncomputable def checkT_e0 (t0 t1 t2 t3 t4 t5 : Int) : Option OutS := evFS Tryz.prog x_checkT 1000 9 #[.agg #[.int .i64 t0, .int .i64 t1, .int .i64 t2, .int .i64 t3, .int .i64 t4, .int .i64 t5]] (noTabs 6) ⟨[1, 0, 0, 1, 1, 0, 1, 2, 0, 1, 3, 0, 0, 1, 0, 0, 1, 1, 0, 1, 2, 0, 0], True⟩
noncomputable def checkT_e1 (t0 t1 t2 t3 t4 t5 : Int) : Option OutS := evFS Tryz.prog x_checkT 1000 9 #[.agg #[.int .i64 t0, .int .i64 t1, .int .i64 t2, .int .i64 t3, .int .i64 t4, .int .i64 t5]] (noTabs 6) ⟨[1, 0, 1, 1, 0, 0, 1, 1, 1], True⟩
noncomputable def checkT_e2 (t0 t1 t2 t3 t4 t5 : Int) : Option OutS := evFS Tryz.prog x_checkT 1000 9 #[.agg #[.int .i64 t0, .int .i64 t1, .int .i64 t2, .int .i64 t3, .int .i64 t4, .int .i64 t5]] (noTabs 6) ⟨[1, 0, 0, 1, 1, 0, 1, 2, 0, 1, 3, 0, 0, 1, 0, 1], True⟩
noncomputable def checkT_e3 (t0 t1 t2 t3 t4 t5 : Int) : Option OutS := evFS Tryz.prog x_checkT 1000 9 #[.agg #[.int .i64 t0, .int .i64 t1, .int .i64 t2, .int .i64 t3, .int .i64 t4, .int .i64 t5]] (noTabs 6) ⟨[1, 0, 1, 1, 0, 0, 1, 1, 0, 1, 2, 1], True⟩
noncomputable def checkT_e4 (t0 t1 t2 t3 t4 t5 : Int) : Option OutS := evFS Tryz.prog x_checkT 1000 9 #[.agg #[.int .i64 t0, .int .i64 t1, .int .i64 t2, .int .i64 t3, .int .i64 t4, .int .i64 t5]] (noTabs 6) ⟨[1, 0, 0, 1, 1, 1, 1, 0, 0, 1, 1, 0, 1, 2, 1], True⟩
noncomputable def checkT_e5 (t0 t1 t2 t3 t4 t5 : Int) : Option OutS := evFS Tryz.prog x_checkT 1000 9 #[.agg #[.int .i64 t0, .int .i64 t1, .int .i64 t2, .int .i64 t3, .int .i64 t4, .int .i64 t5]] (noTabs 6) ⟨[1, 0, 0, 1, 1, 0, 1, 2, 0, 1, 3, 0, 0, 1, 0, 0, 1, 1, 1], True⟩
noncomputable def checkT_e6 (t0 t1 t2 t3 t4 t5 : Int) : Option OutS := evFS Tryz.prog x_checkT 1000 9 #[.agg #[.int .i64 t0, .int .i64 t1, .int .i64 t2, .int .i64 t3, .int .i64 t4, .int .i64 t5]] (noTabs 6) ⟨[1, 0, 0, 1, 1, 0, 1, 2, 0, 1, 3, 1, 1, 0, 0, 1, 1, 1], True⟩
noncomputable def checkT_e7 (t0 t1 t2 t3 t4 t5 : Int) : Option OutS := evFS Tryz.prog x_checkT 1000 9 #[.agg #[.int .i64 t0, .int .i64 t1, .int .i64 t2, .int .i64 t3, .int .i64 t4, .int .i64 t5]] (noTabs 6) ⟨[1, 0, 0, 1, 1, 0, 1, 2, 0, 1, 3, 1, 1, 0, 0, 1, 1, 0, 1, 2, 1], True⟩
noncomputable def checkT_e8 (t0 t1 t2 t3 t4 t5 : Int) : Option OutS := evFS Tryz.prog x_checkT 1000 9 #[.agg #[.int .i64 t0, .int .i64 t1, .int .i64 t2, .int .i64 t3, .int .i64 t4, .int .i64 t5]] (noTabs 6) ⟨[1, 0, 1, 1, 0, 1], True⟩
noncomputable def checkT_e9 (t0 t1 t2 t3 t4 t5 : Int) : Option OutS := evFS Tryz.prog x_checkT 1000 9 #[.agg #[.int .i64 t0, .int .i64 t1, .int .i64 t2, .int .i64 t3, .int .i64 t4, .int .i64 t5]] (noTabs 6) ⟨[1, 0, 0, 1, 1, 0, 1, 2, 1, 1, 0, 0, 1, 1, 0, 1, 2, 1], True⟩
noncomputable def checkT_e10 (t0 t1 t2 t3 t4 t5 : Int) : Option OutS := evFS Tryz.prog x_checkT 1000 9 #[.agg #[.int .i64 t0, .int .i64 t1, .int .i64 t2, .int .i64 t3, .int .i64 t4, .int .i64 t5]] (noTabs 6) ⟨[1, 0, 0, 1, 1, 0, 1, 2, 0, 1, 3, 1, 1, 0, 1], True⟩
noncomputable def checkT_e11 (t0 t1 t2 t3 t4 t5 : Int) : Option OutS := evFS Tryz.prog x_checkT 1000 9 #[.agg #[.int .i64 t0, .int .i64 t1, .int .i64 t2, .int .i64 t3, .int .i64 t4, .int .i64 t5]] (noTabs 6) ⟨[1, 0, 0, 1, 1, 1, 1, 0, 1], True⟩
noncomputable def checkT_e12 (t0 t1 t2 t3 t4 t5 : Int) : Option OutS := evFS Tryz.prog x_checkT 1000 9 #[.agg #[.int .i64 t0, .int .i64 t1, .int .i64 t2, .int .i64 t3, .int .i64 t4, .int .i64 t5]] (noTabs 6) ⟨[1, 0, 0, 1, 1, 0, 1, 2, 1, 1, 0, 0, 1, 1, 1], True⟩
noncomputable def checkT_e13 (t0 t1 t2 t3 t4 t5 : Int) : Option OutS := evFS Tryz.prog x_checkT 1000 9 #[.agg #[.int .i64 t0, .int .i64 t1, .int .i64 t2, .int .i64 t3, .int .i64 t4, .int .i64 t5]] (noTabs 6) ⟨[1, 0, 0, 1, 1, 0, 1, 2, 1, 1, 0, 1], True⟩
noncomputable def checkT_e14 (t0 t1 t2 t3 t4 t5 : Int) : Option OutS := evFS Tryz.prog x_checkT 1000 9 #[.agg #[.int .i64 t0, .int .i64 t1, .int .i64 t2, .int .i64 t3, .int .i64 t4, .int .i64 t5]] (noTabs 6) ⟨[1, 0, 0, 1, 1, 1, 1, 0, 0, 1, 1, 1], True⟩
noncomputable def x_rcheckT : CallS := kAll [c_rrange]
noncomputable def rcheckT_e0 (t0 t1 t2 t3 t4 t5 : Int) : Option OutS := evFS Tryz.prog x_rcheckT 1000 6 #[.agg #[.int .i64 t0, .int .i64 t1, .int .i64 t2, .int .i64 t3, .int .i64 t4, .int .i64 t5]] (noTabs 6) ⟨[1, 0, 1, 1, 1, 2, 1, 3, 0, 1, 0, 0, 1, 1, 0, 1, 2, 0, 1, 3, 0, 1, 4, 0, 1, 5, 1, 5], True⟩
noncomputable def rcheckT_e1 (t0 t1 t2 t3 t4 t5 : Int) : Option OutS := evFS Tryz.prog x_rcheckT 1000 6 #[.agg #[.int .i64 t0, .int .i64 t1, .int .i64 t2, .int .i64 t3, .int .i64 t4, .int .i64 t5]] (noTabs 6) ⟨[1, 0, 1, 1, 1, 2, 1, 3, 0, 1, 0, 1, 0], True⟩
noncomputable def rcheckT_e2 (t0 t1 t2 t3 t4 t5 : Int) : Option OutS := evFS Tryz.prog x_rcheckT 1000 6 #[.agg #[.int .i64 t0, .int .i64 t1, .int .i64 t2, .int .i64 t3, .int .i64 t4, .int .i64 t5]] (noTabs 6) ⟨[1, 0, 1, 1, 1, 2, 1, 3, 0, 1, 0, 0, 1, 1, 0, 1, 2, 0, 1, 3, 0, 1, 4, 0, 1, 5, 0, 0], True⟩
noncomputable def rcheckT_e3 (t0 t1 t2 t3 t4 t5 : Int) : Option OutS := evFS Tryz.prog x_rcheckT 1000 6 #[.agg #[.int .i64 t0, .int .i64 t1, .int .i64 t2, .int .i64 t3, .int .i64 t4, .int .i64 t5]] (noTabs 6) ⟨[1, 0, 1, 1, 1, 2, 1, 3, 0, 1, 0, 0, 1, 1, 0, 1, 2, 1, 2], True⟩
noncomputable def rcheckT_e4 (t0 t1 t2 t3 t4 t5 : Int) : Option OutS := evFS Tryz.prog x_rcheckT 1000 6 #[.agg #[.int .i64 t0, .int .i64 t1, .int .i64 t2, .int .i64 t3, .int .i64 t4, .int .i64 t5]] (noTabs 6) ⟨[1, 0, 1, 1, 1, 2, 1, 3, 0, 1, 0, 0, 1, 1, 0, 1, 2, 0, 1, 3, 0, 1, 4, 1, 4], True⟩
noncomputable def rcheckT_e5 (t0 t1 t2 t3 t4 t5 : Int) : Option OutS := evFS Tryz.prog x_rcheckT 1000 6 #[.agg #[.int .i64 t0, .int .i64 t1, .int .i64 t2, .int .i64 t3, .int .i64 t4, .int .i64 t5]] (noTabs 6) ⟨[1, 0, 1, 1, 1, 2, 1, 3, 0, 1, 0, 0, 1, 1, 1, 1], True⟩
noncomputable def rcheckT_e6 (t0 t1 t2 t3 t4 t5 : Int) : Option OutS := evFS Tryz.prog x_rcheckT 1000 6 #[.agg #[.int .i64 t0, .int .i64 t1, .int .i64 t2, .int .i64 t3, .int .i64 t4, .int .i64 t5]] (noTabs 6) ⟨[1, 0, 1, 1, 1, 2, 1, 3, 0, 1, 0, 0, 1, 1, 0, 1, 2, 0, 1, 3, 1, 3], True⟩
noncomputable def x_rencode : CallS := kAll []
noncomputable def rencode_e0 (t0 t1 t2 t3 t4 t5 : Int) : Option OutS := evFS Tryz.prog x_rencode 1000 7 #[.agg #[.int .i64 t0, .int .i64 t1, .int .i64 t2, .int .i64 t3, .int .i64 t4, .int .i64 t5]] (noTabs 6) ⟨[1, 0, 1, 1, 1, 2, 1, 3, 0, 1, 0, 1, 1, 1, 2, 1, 3, 1, 4, 1, 5, 1, 6, 1, 7, 1, 8, 1, 9, 1, 10, 1, 11, 0, 1, 0, 0, 1, 1, 1, 1, 2, 2, 1, 3, 3, 1, 4, 4, 1, 5, 5, 1, 6, 6, 1, 7, 7, 1, 8, 8, 1, 9, 9, 1, 10, 10, 1, 11, 11, 1, 12, 12, 1, 13, 13, 1, 14, 14, 1, 15, 15, 0], True⟩
noncomputable def x_encode : CallS := kAll [c_checkT]
noncomputable def encode_e0 (t0 t1 t2 t3 t4 t5 : Int) : Option OutS := evFS Tryz.prog x_encode 1000 4 #[.agg #[.int .i64 t0, .int .i64 t1, .int .i64 t2, .int .i64 t3, .int .i64 t4, .int .i64 t5]] (noTabs 6) ⟨[0, 1, 1, 0, 1, 0, 1, 1, 0, 1, 1, 1, 1, 0, 1, 2, 1, 1, 0, 1, 3, 1, 1, 0, 0, 1, 0, 1, 1, 1, 2, 1, 3, 1, 4, 1, 5, 1, 6, 1, 7, 1, 8, 1, 9, 1, 10, 1, 11, 0, 1, 1, 1, 1, 0], True⟩
noncomputable def encode_e1 (t0 t1 t2 t3 t4 t5 : Int) : Option OutS := evFS Tryz.prog x_encode 1000 4 #[.agg #[.int .i64 t0, .int .i64 t1, .int .i64 t2, .int .i64 t3, .int .i64 t4, .int .i64 t5]] (noTabs 6) ⟨[1], True⟩
noncomputable def x_rdecode : CallS := kAll []
noncomputable def rdecode_e0 (y0 y1 y2 y3 y4 y5 y6 y7 y8 y9 y10 y11 y12 y13 y14 y15 : Int) : Option OutS := evFS Tryz.prog x_rdecode 1000 8 #[.agg #[.int .u8 y0, .int .u8 y1, .int .u8 y2, .int .u8 y3, .int .u8 y4, .int .u8 y5, .int .u8 y6, .int .u8 y7, .int .u8 y8, .int .u8 y9, .int .u8 y10, .int .u8 y11, .int .u8 y12, .int .u8 y13, .int .u8 y14, .int .u8 y15]] (noTabs 6) ⟨[0, 0, 1, 0, 1, 1, 1, 2, 1, 3, 1, 4, 1, 5, 1, 6, 1, 7, 1, 8, 1, 9, 1, 10, 1, 11, 0, 1, 12, 1, 13, 1, 14, 1, 15, 0, 0, 1, 1, 2, 1, 3, 0, 1, 1, 4, 1, 5, 0, 0, 1, 1, 6, 1, 7, 0, 1, 1, 1, 8, 1, 9, 0, 2, 1, 1, 10, 1, 11, 0, 3, 0], True⟩
noncomputable def rdecode_e1 (y0 y1 y2 y3 y4 y5 y6 y7 y8 y9 y10 y11 y12 y13 y14 y15 : Int) : Option OutS := evFS Tryz.prog x_rdecode 1000 8 #[.agg #[.int .u8 y0, .int .u8 y1, .int .u8 y2, .int .u8 y3, .int .u8 y4, .int .u8 y5, .int .u8 y6, .int .u8 y7, .int .u8 y8, .int .u8 y9, .int .u8 y10, .int .u8 y11, .int .u8 y12, .int .u8 y13, .int .u8 y14, .int .u8 y15]] (noTabs 6) ⟨[0, 0, 1, 0, 1, 1, 1, 2, 1, 3, 1, 4, 1, 5, 1, 6, 1, 7, 1, 8, 1, 9, 1, 10, 1, 11, 0, 1, 12, 1, 13, 1, 14, 1, 15, 0, 1], True⟩
noncomputable def rdecode_e2 (y0 y1 y2 y3 y4 y5 y6 y7 y8 y9 y10 y11 y12 y13 y14 y15 : Int) : Option OutS := evFS Tryz.prog x_rdecode 1000 8 #[.agg #[.int .u8 y0, .int .u8 y1, .int .u8 y2, .int .u8 y3, .int .u8 y4, .int .u8 y5, .int .u8 y6, .int .u8 y7, .int .u8 y8, .int .u8 y9, .int .u8 y10, .int .u8 y11, .int .u8 y12, .int .u8 y13, .int .u8 y14, .int .u8 y15]] (noTabs 6) ⟨[0, 1], True⟩
noncomputable def x_decode : CallS := kAll []
noncomputable def decode_e0 (y0 y1 y2 y3 y4 y5 y6 y7 y8 y9 y10 y11 y12 y13 y14 y15 : Int) : Option OutS := evFS Tryz.prog x_decode 1000 5 #[.agg #[.int .u8 y0, .int .u8 y1, .int .u8 y2, .int .u8 y3, .int .u8 y4, .int .u8 y5, .int .u8 y6, .int .u8 y7, .int .u8 y8, .int .u8 y9, .int .u8 y10, .int .u8 y11, .int .u8 y12, .int .u8 y13, .int .u8 y14, .int .u8 y15]] (noTabs 6) ⟨[0, 0, 1, 0, 1, 1, 1, 2, 1, 3, 0, 1, 0, 1, 1, 1, 2, 1, 3, 1, 4, 1, 5, 1, 6, 1, 7, 1, 8, 1, 9, 1, 10, 1, 11, 0, 0, 1, 1, 0, 1, 1, 0, 1, 1, 0, 1, 1, 0, 0, 1, 1, 0, 1, 1, 0, 1, 1, 1, 0, 1, 1, 0, 2, 1, 1, 0, 1, 1, 0, 3, 0], True⟩
noncomputable def decode_e1 (y0 y1 y2 y3 y4 y5 y6 y7 y8 y9 y10 y11 y12 y13 y14 y15 : Int) : Option OutS := evFS Tryz.prog x_decode 1000 5 #[.agg #[.int .u8 y0, .int .u8 y1, .int .u8 y2, .int .u8 y3, .int .u8 y4, .int .u8 y5, .int .u8 y6, .int .u8 y7, .int .u8 y8, .int .u8 y9, .int .u8 y10, .int .u8 y11, .int .u8 y12, .int .u8 y13, .int .u8 y14, .int .u8 y15]] (noTabs 6) ⟨[0, 0, 1, 0, 1, 1, 1, 2, 1, 3, 0, 1, 0, 1, 1, 1, 2, 1, 3, 1, 4, 1, 5, 1, 6, 1, 7, 1, 8, 1, 9, 1, 10, 1, 11, 0, 1], True⟩
noncomputable def decode_e2 (y0 y1 y2 y3 y4 y5 y6 y7 y8 y9 y10 y11 y12 y13 y14 y15 : Int) : Option OutS := evFS Tryz.prog x_decode 1000 5 #[.agg #[.int .u8 y0, .int .u8 y1, .int .u8 y2, .int .u8 y3, .int .u8 y4, .int .u8 y5, .int .u8 y6, .int .u8 y7, .int .u8 y8, .int .u8 y9, .int .u8 y10, .int .u8 y11, .int .u8 y12, .int .u8 y13, .int .u8 y14, .int .u8 y15]] (noTabs 6) ⟨[0, 1], True⟩
end Go.Proofs.YtgapibngfpafpaaGreatDoor
end
section
set_option linter.all false
set_option maxRecDepth 1000000
open Go.RowKit
namespace Go.Proofs.YtgapibngfpafpaaGreatDoor
open Mini

noncomputable def x_lTele : CallS := bothX (kAll [c_encode, c_decode, c_rcheckT, c_checkT, c_rencode, c_rdecode]) (tabX awS0 10)
noncomputable def lTele_e0 (t0 t1 t2 t3 t4 t5 y0 y1 y2 y3 y4 y5 y6 y7 y8 y9 y10 y11 y12 y13 y14 y15 : Int) : Option OutS := evFS Tryz.prog x_lTele 1000 3 #[.agg #[.int .i64 t0, .int .i64 t1, .int .i64 t2, .int .i64 t3, .int .i64 t4, .int .i64 t5], .agg #[.int .u8 y0, .int .u8 y1, .int .u8 y2, .int .u8 y3, .int .u8 y4, .int .u8 y5, .int .u8 y6, .int .u8 y7, .int .u8 y8, .int .u8 y9, .int .u8 y10, .int .u8 y11, .int .u8 y12, .int .u8 y13, .int .u8 y14, .int .u8 y15]] awS0 ⟨[1, 1, 1, 1, 1, 1, 1, 1, 1, 1, 1, 1, 1, 1, 1, 1, 1, 1, 1], True⟩
noncomputable def lTele_e1 (t0 t1 t2 t3 t4 t5 y0 y1 y2 y3 y4 y5 y6 y7 y8 y9 y10 y11 y12 y13 y14 y15 : Int) : Option OutS := evFS Tryz.prog x_lTele 1000 3 #[.agg #[.int .i64 t0, .int .i64 t1, .int .i64 t2, .int .i64 t3, .int .i64 t4, .int .i64 t5], .agg #[.int .u8 y0, .int .u8 y1, .int .u8 y2, .int .u8 y3, .int .u8 y4, .int .u8 y5, .int .u8 y6, .int .u8 y7, .int .u8 y8, .int .u8 y9, .int .u8 y10, .int .u8 y11, .int .u8 y12, .int .u8 y13, .int .u8 y14, .int .u8 y15]] awS0 ⟨[0, 1, 1, 1, 1, 1, 1, 1, 1, 1, 1, 1, 1, 1, 1, 1, 1, 1, 1], True⟩
end Go.Proofs.YtgapibngfpafpaaGreatDoor
end
section
set_option linter.all false
set_option maxRecDepth 1000000
set_option maxHeartbeats 2000000
open Go.RowKit
namespace Go.Proofs.YtgapibngfpafpaaGreatDoor
open Mini

def range_val (n lo hi : Int) : Value := .int .i64 (Pl.cr n lo hi)
theorem range_X : FOkS Tryz.prog x_range := noXS_ok
theorem range_args (n lo hi : Int) : (#[.int .i64 n, .int .i64 lo, .int .i64 hi] : Array Value).toList.all (ground 8) = true := by kernel_rfl
def range_c0 (n lo hi : Int) : Bool := (decide (n < lo))
theorem range_g1 : (true = true) := by first | rfl | trivial | decide | omega
def range_c1 (n lo hi : Int) : Bool := (decide (n > hi))
def range_w0 (n lo hi : Int) : Value := .int .i64 (3 : Int)
def range_r0 (n lo hi : Int) : Prop := (((((True ∧ (range_c0 n lo hi = true)) ∧ (range_c0 n lo hi = true)) ∧ (range_c0 n lo hi = true)) ∧ (range_c0 n lo hi = true)) ∧ ((true = true)))
theorem range_o0 (n lo hi : Int) : obOf (range_e0 n lo hi) = range_r0 n lo hi := by kernel_rfl
theorem range_v0 (n lo hi : Int) : resOf (range_e0 n lo hi) = range_w0 n lo hi := by kernel_rfl
theorem range_k0 (n lo hi : Int) : cleanOf Tryz.prog.globals.size (range_e0 n lo hi) = true := by kernel_rfl
theorem range_q0 (n lo hi : Int) : range_e0 n lo hi = evFS Tryz.prog x_range 1000 23 #[.int .i64 n, .int .i64 lo, .int .i64 hi] (noTabs 6) ⟨[0, 0, 0, 1, 1], True⟩ := by
  delta range_e0
  exact Eq.refl _
theorem range_p0 (n lo hi : Int) (h : range_r0 n lo hi) (w : World) : Calls Tryz.prog 23 #[.int .i64 n, .int .i64 lo, .int .i64 hi] w fun en w' => en = .returned (range_w0 n lo hi) ∧ Below w.heap.size w w' := by
  have hv := range_v0 n lo hi
  have hc := range_k0 n lo hi
  have he := range_q0 n lo hi
  have ho := range_o0 n lo hi
  generalize range_e0 n lo hi = r at *
  exact calls_way he gfol range_X hv rfl (range_args n lo hi) hc ho h (bl w)
def range_w1 (n lo hi : Int) : Value := .int .i64 (3 : Int)
def range_r1 (n lo hi : Int) : Prop := (((((True ∧ (range_c0 n lo hi = false)) ∧ (range_c0 n lo hi = false)) ∧ (range_c0 n lo hi = false)) ∧ (range_c0 n lo hi = false)) ∧ (range_c1 n lo hi = true))
theorem range_o1 (n lo hi : Int) : obOf (range_e1 n lo hi) = range_r1 n lo hi := by kernel_rfl
theorem range_v1 (n lo hi : Int) : resOf (range_e1 n lo hi) = range_w1 n lo hi := by kernel_rfl
theorem range_k1 (n lo hi : Int) : cleanOf Tryz.prog.globals.size (range_e1 n lo hi) = true := by kernel_rfl
theorem range_q1 (n lo hi : Int) : range_e1 n lo hi = evFS Tryz.prog x_range 1000 23 #[.int .i64 n, .int .i64 lo, .int .i64 hi] (noTabs 6) ⟨[1, 1, 1, 0, 1], True⟩ := by
  delta range_e1
  exact Eq.refl _
theorem range_p1 (n lo hi : Int) (h : range_r1 n lo hi) (w : World) : Calls Tryz.prog 23 #[.int .i64 n, .int .i64 lo, .int .i64 hi] w fun en w' => en = .returned (range_w1 n lo hi) ∧ Below w.heap.size w w' := by
  have hv := range_v1 n lo hi
  have hc := range_k1 n lo hi
  have he := range_q1 n lo hi
  have ho := range_o1 n lo hi
  generalize range_e1 n lo hi = r at *
  exact calls_way he gfol range_X hv rfl (range_args n lo hi) hc ho h (bl w)
def range_w2 (n lo hi : Int) : Value := .int .i64 (0 : Int)
def range_r2 (n lo hi : Int) : Prop := (((((True ∧ (range_c0 n lo hi = false)) ∧ (range_c0 n lo hi = false)) ∧ (range_c0 n lo hi = false)) ∧ (range_c0 n lo hi = false)) ∧ (range_c1 n lo hi = false))
theorem range_o2 (n lo hi : Int) : obOf (range_e2 n lo hi) = range_r2 n lo hi := by kernel_rfl
theorem range_v2 (n lo hi : Int) : resOf (range_e2 n lo hi) = range_w2 n lo hi := by kernel_rfl
theorem range_k2 (n lo hi : Int) : cleanOf Tryz.prog.globals.size (range_e2 n lo hi) = true := by kernel_rfl
theorem range_q2 (n lo hi : Int) : range_e2 n lo hi = evFS Tryz.prog x_range 1000 23 #[.int .i64 n, .int .i64 lo, .int .i64 hi] (noTabs 6) ⟨[1, 1, 1, 0, 0], True⟩ := by
  delta range_e2
  exact Eq.refl _
theorem range_p2 (n lo hi : Int) (h : range_r2 n lo hi) (w : World) : Calls Tryz.prog 23 #[.int .i64 n, .int .i64 lo, .int .i64 hi] w fun en w' => en = .returned (range_w2 n lo hi) ∧ Below w.heap.size w w' := by
  have hv := range_v2 n lo hi
  have hc := range_k2 n lo hi
  have he := range_q2 n lo hi
  have ho := range_o2 n lo hi
  generalize range_e2 n lo hi = r at *
  exact calls_way he gfol range_X hv rfl (range_args n lo hi) hc ho h (bl w)
theorem range_any (n lo hi : Int) (hpre : True) (w : World) : Calls Tryz.prog 23 #[.int .i64 n, .int .i64 lo, .int .i64 hi] w fun en w' => en = .returned (range_val n lo hi) ∧ Below w.heap.size w w' := by
  rcases Bool.eq_false_or_eq_true (range_c0 n lo hi) with h0 | h0
  ·
    unfold range_c0 at h0
    have hp := range_p0 n lo hi ⟨⟨⟨⟨⟨trivial, h0⟩, h0⟩, h0⟩, h0⟩, range_g1⟩ w
    have hv : range_w0 n lo hi = (range_val n lo hi) := by
      clear hp
      unfold range_w0 range_val
      first | rfl | ((try simp only [bne_iff_ne, ne_eq, decide_eq_true_eq, decide_eq_false_iff_not, Bool.not_eq_true', Bool.not_eq_false', beq_iff_eq, beq_eq_false_iff_ne, bne_eq_false_iff_eq, Bool.and_eq_true, Bool.not_eq_true, Bool.not_eq_false, Pl.cr] at *); grind)
    exact hv ▸ hp
  ·
    unfold range_c0 at h0
    rcases Bool.eq_false_or_eq_true (range_c1 n lo hi) with h1 | h1
    ·
      unfold range_c1 at h1
      have hp := range_p1 n lo hi ⟨⟨⟨⟨⟨trivial, h0⟩, h0⟩, h0⟩, h0⟩, h1⟩ w
      have hv : range_w1 n lo hi = (range_val n lo hi) := by
        clear hp
        unfold range_w1 range_val
        first | rfl | ((try simp only [bne_iff_ne, ne_eq, decide_eq_true_eq, decide_eq_false_iff_not, Bool.not_eq_true', Bool.not_eq_false', beq_iff_eq, beq_eq_false_iff_ne, bne_eq_false_iff_eq, Bool.and_eq_true, Bool.not_eq_true, Bool.not_eq_false, Pl.cr] at *); grind)
      exact hv ▸ hp
    ·
      unfold range_c1 at h1
      have hp := range_p2 n lo hi ⟨⟨⟨⟨⟨trivial, h0⟩, h0⟩, h0⟩, h0⟩, h1⟩ w
      have hv : range_w2 n lo hi = (range_val n lo hi) := by
        clear hp
        unfold range_w2 range_val
        first | rfl | ((try simp only [bne_iff_ne, ne_eq, decide_eq_true_eq, decide_eq_false_iff_not, Bool.not_eq_true', Bool.not_eq_false', beq_iff_eq, beq_eq_false_iff_ne, bne_eq_false_iff_eq, Bool.and_eq_true, Bool.not_eq_true, Bool.not_eq_false, Pl.cr] at *); grind)
      exact hv ▸ hp
theorem k_range : ConOk Tryz.prog c_range := fun ns hl => by
  have hl0 : ns.length = 3 := hl
  clear hl
  obtain ⟨n, ns0, rfl, hl1⟩ := len_cons hl0
  obtain ⟨lo, ns1, rfl, hl2⟩ := len_cons hl1
  obtain ⟨hi, ns2, rfl, hl3⟩ := len_cons hl2
  obtain rfl := len_nil hl3
  exact ⟨rfl, fun h w => range_any n lo hi h w⟩
end Go.Proofs.YtgapibngfpafpaaGreatDoor
end
section
set_option linter.all false
set_option maxRecDepth 1000000
set_option maxHeartbeats 2000000
open Go.RowKit
namespace Go.Proofs.YtgapibngfpafpaaGreatDoor
open Mini

def checkT_val (t0 t1 t2 t3 t4 t5 : Int) : Value := .int .i64 (th6 (Pl.cr t0 0 255) (Pl.cr t1 0 65535) (Pl.cr t2 (-32768) 32767) (Pl.cr t3 (-32768) 32767) (Pl.cr t4 (-32768) 32767) (Pl.cr t5 (-32768) 32767))
theorem checkT_X : FOkS Tryz.prog x_checkT := kAll_ok _ ⟨k_range, trivial⟩
theorem checkT_args (t0 t1 t2 t3 t4 t5 : Int) : (#[.agg #[.int .i64 t0, .int .i64 t1, .int .i64 t2, .int .i64 t3, .int .i64 t4, .int .i64 t5]] : Array Value).toList.all (ground 8) = true := by kernel_rfl
theorem checkT_g0 : True := by first | rfl | trivial | decide | omega
theorem checkT_g1 : (true = true) := by first | rfl | trivial | decide | omega
theorem checkT_g2 : ((0 : Int) = (Int.ofNat 0)) := by first | rfl | trivial | decide | omega
def checkT_c0 (t0 t1 t2 t3 t4 t5 : Int) : Bool := ((Pl.cr t2 (-32768 : Int) (32767 : Int)) != (0 : Int))
theorem checkT_g4 : ((1 : Int) = (Int.ofNat 1)) := by first | rfl | trivial | decide | omega
def checkT_c1 (t0 t1 t2 t3 t4 t5 : Int) : Bool := ((Pl.cr t3 (-32768 : Int) (32767 : Int)) != (0 : Int))
theorem checkT_g6 : ((2 : Int) = (Int.ofNat 2)) := by first | rfl | trivial | decide | omega
def checkT_c2 (t0 t1 t2 t3 t4 t5 : Int) : Bool := ((Pl.cr t4 (-32768 : Int) (32767 : Int)) != (0 : Int))
theorem checkT_g8 : ((3 : Int) = (Int.ofNat 3)) := by first | rfl | trivial | decide | omega
def checkT_c3 (t0 t1 t2 t3 t4 t5 : Int) : Bool := ((Pl.cr t5 (-32768 : Int) (32767 : Int)) != (0 : Int))
theorem checkT_g10 : (false = false) := by first | rfl | trivial | decide | omega
def checkT_c4 (t0 t1 t2 t3 t4 t5 : Int) : Bool := ((Pl.cr t0 (0 : Int) (255 : Int)) != (0 : Int))
def checkT_c5 (t0 t1 t2 t3 t4 t5 : Int) : Bool := ((Pl.cr t1 (0 : Int) (65535 : Int)) != (0 : Int))
def checkT_w0 (t0 t1 t2 t3 t4 t5 : Int) : Value := .int .i64 (0 : Int)
def checkT_r0 (t0 t1 t2 t3 t4 t5 : Int) : Prop := (((((((((((((((((((((((((((((True ∧ (True)) ∧ (True)) ∧ ((true = true))) ∧ (((0 : Int) = (Int.ofNat 0)))) ∧ (True)) ∧ (checkT_c0 t0 t1 t2 t3 t4 t5 = false)) ∧ ((true = true))) ∧ (((1 : Int) = (Int.ofNat 1)))) ∧ (True)) ∧ (checkT_c1 t0 t1 t2 t3 t4 t5 = false)) ∧ ((true = true))) ∧ (((2 : Int) = (Int.ofNat 2)))) ∧ (True)) ∧ (checkT_c2 t0 t1 t2 t3 t4 t5 = false)) ∧ ((true = true))) ∧ (((3 : Int) = (Int.ofNat 3)))) ∧ (True)) ∧ (checkT_c3 t0 t1 t2 t3 t4 t5 = false)) ∧ ((false = false))) ∧ ((true = true))) ∧ (((0 : Int) = (Int.ofNat 0)))) ∧ (checkT_c4 t0 t1 t2 t3 t4 t5 = false)) ∧ ((true = true))) ∧ (((1 : Int) = (Int.ofNat 1)))) ∧ (checkT_c5 t0 t1 t2 t3 t4 t5 = false)) ∧ ((true = true))) ∧ (((2 : Int) = (Int.ofNat 2)))) ∧ ((false = false))) ∧ ((false = false)))
theorem checkT_o0 (t0 t1 t2 t3 t4 t5 : Int) : obOf (checkT_e0 t0 t1 t2 t3 t4 t5) = checkT_r0 t0 t1 t2 t3 t4 t5 := by kernel_rfl
theorem checkT_v0 (t0 t1 t2 t3 t4 t5 : Int) : resOf (checkT_e0 t0 t1 t2 t3 t4 t5) = checkT_w0 t0 t1 t2 t3 t4 t5 := by kernel_rfl
theorem checkT_k0 (t0 t1 t2 t3 t4 t5 : Int) : cleanOf Tryz.prog.globals.size (checkT_e0 t0 t1 t2 t3 t4 t5) = true := by kernel_rfl
theorem checkT_q0 (t0 t1 t2 t3 t4 t5 : Int) : checkT_e0 t0 t1 t2 t3 t4 t5 = evFS Tryz.prog x_checkT 1000 9 #[.agg #[.int .i64 t0, .int .i64 t1, .int .i64 t2, .int .i64 t3, .int .i64 t4, .int .i64 t5]] (noTabs 6) ⟨[1, 0, 0, 1, 1, 0, 1, 2, 0, 1, 3, 0, 0, 1, 0, 0, 1, 1, 0, 1, 2, 0, 0], True⟩ := by
  delta checkT_e0
  exact Eq.refl _
theorem checkT_p0 (t0 t1 t2 t3 t4 t5 : Int) (h : checkT_r0 t0 t1 t2 t3 t4 t5) (w : World) : Calls Tryz.prog 9 #[.agg #[.int .i64 t0, .int .i64 t1, .int .i64 t2, .int .i64 t3, .int .i64 t4, .int .i64 t5]] w fun en w' => en = .returned (checkT_w0 t0 t1 t2 t3 t4 t5) ∧ Below w.heap.size w w' := by
  have hv := checkT_v0 t0 t1 t2 t3 t4 t5
  have hc := checkT_k0 t0 t1 t2 t3 t4 t5
  have he := checkT_q0 t0 t1 t2 t3 t4 t5
  have ho := checkT_o0 t0 t1 t2 t3 t4 t5
  generalize checkT_e0 t0 t1 t2 t3 t4 t5 = r at *
  exact calls_way he gfol checkT_X hv rfl (checkT_args t0 t1 t2 t3 t4 t5) hc ho h (bl w)
def checkT_w1 (t0 t1 t2 t3 t4 t5 : Int) : Value := .int .i64 (Pl.cr t1 (0 : Int) (65535 : Int))
def checkT_r1 (t0 t1 t2 t3 t4 t5 : Int) : Prop := ((((((((((((True ∧ (True)) ∧ (True)) ∧ ((true = true))) ∧ (((0 : Int) = (Int.ofNat 0)))) ∧ (True)) ∧ (checkT_c0 t0 t1 t2 t3 t4 t5 = true)) ∧ ((true = true))) ∧ (((0 : Int) = (Int.ofNat 0)))) ∧ (checkT_c4 t0 t1 t2 t3 t4 t5 = false)) ∧ ((true = true))) ∧ (((1 : Int) = (Int.ofNat 1)))) ∧ (checkT_c5 t0 t1 t2 t3 t4 t5 = true))
theorem checkT_o1 (t0 t1 t2 t3 t4 t5 : Int) : obOf (checkT_e1 t0 t1 t2 t3 t4 t5) = checkT_r1 t0 t1 t2 t3 t4 t5 := by kernel_rfl
theorem checkT_v1 (t0 t1 t2 t3 t4 t5 : Int) : resOf (checkT_e1 t0 t1 t2 t3 t4 t5) = checkT_w1 t0 t1 t2 t3 t4 t5 := by kernel_rfl
theorem checkT_k1 (t0 t1 t2 t3 t4 t5 : Int) : cleanOf Tryz.prog.globals.size (checkT_e1 t0 t1 t2 t3 t4 t5) = true := by kernel_rfl
theorem checkT_q1 (t0 t1 t2 t3 t4 t5 : Int) : checkT_e1 t0 t1 t2 t3 t4 t5 = evFS Tryz.prog x_checkT 1000 9 #[.agg #[.int .i64 t0, .int .i64 t1, .int .i64 t2, .int .i64 t3, .int .i64 t4, .int .i64 t5]] (noTabs 6) ⟨[1, 0, 1, 1, 0, 0, 1, 1, 1], True⟩ := by
  delta checkT_e1
  exact Eq.refl _
theorem checkT_p1 (t0 t1 t2 t3 t4 t5 : Int) (h : checkT_r1 t0 t1 t2 t3 t4 t5) (w : World) : Calls Tryz.prog 9 #[.agg #[.int .i64 t0, .int .i64 t1, .int .i64 t2, .int .i64 t3, .int .i64 t4, .int .i64 t5]] w fun en w' => en = .returned (checkT_w1 t0 t1 t2 t3 t4 t5) ∧ Below w.heap.size w w' := by
  have hv := checkT_v1 t0 t1 t2 t3 t4 t5
  have hc := checkT_k1 t0 t1 t2 t3 t4 t5
  have he := checkT_q1 t0 t1 t2 t3 t4 t5
  have ho := checkT_o1 t0 t1 t2 t3 t4 t5
  generalize checkT_e1 t0 t1 t2 t3 t4 t5 = r at *
  exact calls_way he gfol checkT_X hv rfl (checkT_args t0 t1 t2 t3 t4 t5) hc ho h (bl w)
def checkT_w2 (t0 t1 t2 t3 t4 t5 : Int) : Value := .int .i64 (Pl.cr t0 (0 : Int) (255 : Int))
def checkT_r2 (t0 t1 t2 t3 t4 t5 : Int) : Prop := ((((((((((((((((((((((True ∧ (True)) ∧ (True)) ∧ ((true = true))) ∧ (((0 : Int) = (Int.ofNat 0)))) ∧ (True)) ∧ (checkT_c0 t0 t1 t2 t3 t4 t5 = false)) ∧ ((true = true))) ∧ (((1 : Int) = (Int.ofNat 1)))) ∧ (True)) ∧ (checkT_c1 t0 t1 t2 t3 t4 t5 = false)) ∧ ((true = true))) ∧ (((2 : Int) = (Int.ofNat 2)))) ∧ (True)) ∧ (checkT_c2 t0 t1 t2 t3 t4 t5 = false)) ∧ ((true = true))) ∧ (((3 : Int) = (Int.ofNat 3)))) ∧ (True)) ∧ (checkT_c3 t0 t1 t2 t3 t4 t5 = false)) ∧ ((false = false))) ∧ ((true = true))) ∧ (((0 : Int) = (Int.ofNat 0)))) ∧ (checkT_c4 t0 t1 t2 t3 t4 t5 = true))
theorem checkT_o2 (t0 t1 t2 t3 t4 t5 : Int) : obOf (checkT_e2 t0 t1 t2 t3 t4 t5) = checkT_r2 t0 t1 t2 t3 t4 t5 := by kernel_rfl
theorem checkT_v2 (t0 t1 t2 t3 t4 t5 : Int) : resOf (checkT_e2 t0 t1 t2 t3 t4 t5) = checkT_w2 t0 t1 t2 t3 t4 t5 := by kernel_rfl
theorem checkT_k2 (t0 t1 t2 t3 t4 t5 : Int) : cleanOf Tryz.prog.globals.size (checkT_e2 t0 t1 t2 t3 t4 t5) = true := by kernel_rfl
theorem checkT_q2 (t0 t1 t2 t3 t4 t5 : Int) : checkT_e2 t0 t1 t2 t3 t4 t5 = evFS Tryz.prog x_checkT 1000 9 #[.agg #[.int .i64 t0, .int .i64 t1, .int .i64 t2, .int .i64 t3, .int .i64 t4, .int .i64 t5]] (noTabs 6) ⟨[1, 0, 0, 1, 1, 0, 1, 2, 0, 1, 3, 0, 0, 1, 0, 1], True⟩ := by
  delta checkT_e2
  exact Eq.refl _
theorem checkT_p2 (t0 t1 t2 t3 t4 t5 : Int) (h : checkT_r2 t0 t1 t2 t3 t4 t5) (w : World) : Calls Tryz.prog 9 #[.agg #[.int .i64 t0, .int .i64 t1, .int .i64 t2, .int .i64 t3, .int .i64 t4, .int .i64 t5]] w fun en w' => en = .returned (checkT_w2 t0 t1 t2 t3 t4 t5) ∧ Below w.heap.size w w' := by
  have hv := checkT_v2 t0 t1 t2 t3 t4 t5
  have hc := checkT_k2 t0 t1 t2 t3 t4 t5
  have he := checkT_q2 t0 t1 t2 t3 t4 t5
  have ho := checkT_o2 t0 t1 t2 t3 t4 t5
  generalize checkT_e2 t0 t1 t2 t3 t4 t5 = r at *
  exact calls_way he gfol checkT_X hv rfl (checkT_args t0 t1 t2 t3 t4 t5) hc ho h (bl w)
def checkT_w3 (t0 t1 t2 t3 t4 t5 : Int) : Value := .int .i64 (Pl.cr t2 (-32768 : Int) (32767 : Int))
def checkT_r3 (t0 t1 t2 t3 t4 t5 : Int) : Prop := (((((((((((((((True ∧ (True)) ∧ (True)) ∧ ((true = true))) ∧ (((0 : Int) = (Int.ofNat 0)))) ∧ (True)) ∧ (checkT_c0 t0 t1 t2 t3 t4 t5 = true)) ∧ ((true = true))) ∧ (((0 : Int) = (Int.ofNat 0)))) ∧ (checkT_c4 t0 t1 t2 t3 t4 t5 = false)) ∧ ((true = true))) ∧ (((1 : Int) = (Int.ofNat 1)))) ∧ (checkT_c5 t0 t1 t2 t3 t4 t5 = false)) ∧ ((true = true))) ∧ (((2 : Int) = (Int.ofNat 2)))) ∧ (checkT_c0 t0 t1 t2 t3 t4 t5 = true))
theorem checkT_o3 (t0 t1 t2 t3 t4 t5 : Int) : obOf (checkT_e3 t0 t1 t2 t3 t4 t5) = checkT_r3 t0 t1 t2 t3 t4 t5 := by kernel_rfl
theorem checkT_v3 (t0 t1 t2 t3 t4 t5 : Int) : resOf (checkT_e3 t0 t1 t2 t3 t4 t5) = checkT_w3 t0 t1 t2 t3 t4 t5 := by kernel_rfl
theorem checkT_k3 (t0 t1 t2 t3 t4 t5 : Int) : cleanOf Tryz.prog.globals.size (checkT_e3 t0 t1 t2 t3 t4 t5) = true := by kernel_rfl
theorem checkT_q3 (t0 t1 t2 t3 t4 t5 : Int) : checkT_e3 t0 t1 t2 t3 t4 t5 = evFS Tryz.prog x_checkT 1000 9 #[.agg #[.int .i64 t0, .int .i64 t1, .int .i64 t2, .int .i64 t3, .int .i64 t4, .int .i64 t5]] (noTabs 6) ⟨[1, 0, 1, 1, 0, 0, 1, 1, 0, 1, 2, 1], True⟩ := by
  delta checkT_e3
  exact Eq.refl _
theorem checkT_p3 (t0 t1 t2 t3 t4 t5 : Int) (h : checkT_r3 t0 t1 t2 t3 t4 t5) (w : World) : Calls Tryz.prog 9 #[.agg #[.int .i64 t0, .int .i64 t1, .int .i64 t2, .int .i64 t3, .int .i64 t4, .int .i64 t5]] w fun en w' => en = .returned (checkT_w3 t0 t1 t2 t3 t4 t5) ∧ Below w.heap.size w w' := by
  have hv := checkT_v3 t0 t1 t2 t3 t4 t5
  have hc := checkT_k3 t0 t1 t2 t3 t4 t5
  have he := checkT_q3 t0 t1 t2 t3 t4 t5
  have ho := checkT_o3 t0 t1 t2 t3 t4 t5
  generalize checkT_e3 t0 t1 t2 t3 t4 t5 = r at *
  exact calls_way he gfol checkT_X hv rfl (checkT_args t0 t1 t2 t3 t4 t5) hc ho h (bl w)
def checkT_w4 (t0 t1 t2 t3 t4 t5 : Int) : Value := .int .i64 (Pl.cr t3 (-32768 : Int) (32767 : Int))
def checkT_r4 (t0 t1 t2 t3 t4 t5 : Int) : Prop := (((((((((((((((((((True ∧ (True)) ∧ (True)) ∧ ((true = true))) ∧ (((0 : Int) = (Int.ofNat 0)))) ∧ (True)) ∧ (checkT_c0 t0 t1 t2 t3 t4 t5 = false)) ∧ ((true = true))) ∧ (((1 : Int) = (Int.ofNat 1)))) ∧ (True)) ∧ (checkT_c1 t0 t1 t2 t3 t4 t5 = true)) ∧ ((true = true))) ∧ (((0 : Int) = (Int.ofNat 0)))) ∧ (checkT_c4 t0 t1 t2 t3 t4 t5 = false)) ∧ ((true = true))) ∧ (((1 : Int) = (Int.ofNat 1)))) ∧ (checkT_c5 t0 t1 t2 t3 t4 t5 = false)) ∧ ((true = true))) ∧ (((2 : Int) = (Int.ofNat 2)))) ∧ (checkT_c1 t0 t1 t2 t3 t4 t5 = true))
theorem checkT_o4 (t0 t1 t2 t3 t4 t5 : Int) : obOf (checkT_e4 t0 t1 t2 t3 t4 t5) = checkT_r4 t0 t1 t2 t3 t4 t5 := by kernel_rfl
theorem checkT_v4 (t0 t1 t2 t3 t4 t5 : Int) : resOf (checkT_e4 t0 t1 t2 t3 t4 t5) = checkT_w4 t0 t1 t2 t3 t4 t5 := by kernel_rfl
theorem checkT_k4 (t0 t1 t2 t3 t4 t5 : Int) : cleanOf Tryz.prog.globals.size (checkT_e4 t0 t1 t2 t3 t4 t5) = true := by kernel_rfl
theorem checkT_q4 (t0 t1 t2 t3 t4 t5 : Int) : checkT_e4 t0 t1 t2 t3 t4 t5 = evFS Tryz.prog x_checkT 1000 9 #[.agg #[.int .i64 t0, .int .i64 t1, .int .i64 t2, .int .i64 t3, .int .i64 t4, .int .i64 t5]] (noTabs 6) ⟨[1, 0, 0, 1, 1, 1, 1, 0, 0, 1, 1, 0, 1, 2, 1], True⟩ := by
  delta checkT_e4
  exact Eq.refl _
theorem checkT_p4 (t0 t1 t2 t3 t4 t5 : Int) (h : checkT_r4 t0 t1 t2 t3 t4 t5) (w : World) : Calls Tryz.prog 9 #[.agg #[.int .i64 t0, .int .i64 t1, .int .i64 t2, .int .i64 t3, .int .i64 t4, .int .i64 t5]] w fun en w' => en = .returned (checkT_w4 t0 t1 t2 t3 t4 t5) ∧ Below w.heap.size w w' := by
  have hv := checkT_v4 t0 t1 t2 t3 t4 t5
  have hc := checkT_k4 t0 t1 t2 t3 t4 t5
  have he := checkT_q4 t0 t1 t2 t3 t4 t5
  have ho := checkT_o4 t0 t1 t2 t3 t4 t5
  generalize checkT_e4 t0 t1 t2 t3 t4 t5 = r at *
  exact calls_way he gfol checkT_X hv rfl (checkT_args t0 t1 t2 t3 t4 t5) hc ho h (bl w)
def checkT_w5 (t0 t1 t2 t3 t4 t5 : Int) : Value := .int .i64 (Pl.cr t1 (0 : Int) (65535 : Int))
def checkT_r5 (t0 t1 t2 t3 t4 t5 : Int) : Prop := (((((((((((((((((((((((((True ∧ (True)) ∧ (True)) ∧ ((true = true))) ∧ (((0 : Int) = (Int.ofNat 0)))) ∧ (True)) ∧ (checkT_c0 t0 t1 t2 t3 t4 t5 = false)) ∧ ((true = true))) ∧ (((1 : Int) = (Int.ofNat 1)))) ∧ (True)) ∧ (checkT_c1 t0 t1 t2 t3 t4 t5 = false)) ∧ ((true = true))) ∧ (((2 : Int) = (Int.ofNat 2)))) ∧ (True)) ∧ (checkT_c2 t0 t1 t2 t3 t4 t5 = false)) ∧ ((true = true))) ∧ (((3 : Int) = (Int.ofNat 3)))) ∧ (True)) ∧ (checkT_c3 t0 t1 t2 t3 t4 t5 = false)) ∧ ((false = false))) ∧ ((true = true))) ∧ (((0 : Int) = (Int.ofNat 0)))) ∧ (checkT_c4 t0 t1 t2 t3 t4 t5 = false)) ∧ ((true = true))) ∧ (((1 : Int) = (Int.ofNat 1)))) ∧ (checkT_c5 t0 t1 t2 t3 t4 t5 = true))
theorem checkT_o5 (t0 t1 t2 t3 t4 t5 : Int) : obOf (checkT_e5 t0 t1 t2 t3 t4 t5) = checkT_r5 t0 t1 t2 t3 t4 t5 := by kernel_rfl
theorem checkT_v5 (t0 t1 t2 t3 t4 t5 : Int) : resOf (checkT_e5 t0 t1 t2 t3 t4 t5) = checkT_w5 t0 t1 t2 t3 t4 t5 := by kernel_rfl
theorem checkT_k5 (t0 t1 t2 t3 t4 t5 : Int) : cleanOf Tryz.prog.globals.size (checkT_e5 t0 t1 t2 t3 t4 t5) = true := by kernel_rfl
theorem checkT_q5 (t0 t1 t2 t3 t4 t5 : Int) : checkT_e5 t0 t1 t2 t3 t4 t5 = evFS Tryz.prog x_checkT 1000 9 #[.agg #[.int .i64 t0, .int .i64 t1, .int .i64 t2, .int .i64 t3, .int .i64 t4, .int .i64 t5]] (noTabs 6) ⟨[1, 0, 0, 1, 1, 0, 1, 2, 0, 1, 3, 0, 0, 1, 0, 0, 1, 1, 1], True⟩ := by
  delta checkT_e5
  exact Eq.refl _
theorem checkT_p5 (t0 t1 t2 t3 t4 t5 : Int) (h : checkT_r5 t0 t1 t2 t3 t4 t5) (w : World) : Calls Tryz.prog 9 #[.agg #[.int .i64 t0, .int .i64 t1, .int .i64 t2, .int .i64 t3, .int .i64 t4, .int .i64 t5]] w fun en w' => en = .returned (checkT_w5 t0 t1 t2 t3 t4 t5) ∧ Below w.heap.size w w' := by
  have hv := checkT_v5 t0 t1 t2 t3 t4 t5
  have hc := checkT_k5 t0 t1 t2 t3 t4 t5
  have he := checkT_q5 t0 t1 t2 t3 t4 t5
  have ho := checkT_o5 t0 t1 t2 t3 t4 t5
  generalize checkT_e5 t0 t1 t2 t3 t4 t5 = r at *
  exact calls_way he gfol checkT_X hv rfl (checkT_args t0 t1 t2 t3 t4 t5) hc ho h (bl w)
def checkT_w6 (t0 t1 t2 t3 t4 t5 : Int) : Value := .int .i64 (Pl.cr t1 (0 : Int) (65535 : Int))
def checkT_r6 (t0 t1 t2 t3 t4 t5 : Int) : Prop := ((((((((((((((((((((((((True ∧ (True)) ∧ (True)) ∧ ((true = true))) ∧ (((0 : Int) = (Int.ofNat 0)))) ∧ (True)) ∧ (checkT_c0 t0 t1 t2 t3 t4 t5 = false)) ∧ ((true = true))) ∧ (((1 : Int) = (Int.ofNat 1)))) ∧ (True)) ∧ (checkT_c1 t0 t1 t2 t3 t4 t5 = false)) ∧ ((true = true))) ∧ (((2 : Int) = (Int.ofNat 2)))) ∧ (True)) ∧ (checkT_c2 t0 t1 t2 t3 t4 t5 = false)) ∧ ((true = true))) ∧ (((3 : Int) = (Int.ofNat 3)))) ∧ (True)) ∧ (checkT_c3 t0 t1 t2 t3 t4 t5 = true)) ∧ ((true = true))) ∧ (((0 : Int) = (Int.ofNat 0)))) ∧ (checkT_c4 t0 t1 t2 t3 t4 t5 = false)) ∧ ((true = true))) ∧ (((1 : Int) = (Int.ofNat 1)))) ∧ (checkT_c5 t0 t1 t2 t3 t4 t5 = true))
theorem checkT_o6 (t0 t1 t2 t3 t4 t5 : Int) : obOf (checkT_e6 t0 t1 t2 t3 t4 t5) = checkT_r6 t0 t1 t2 t3 t4 t5 := by kernel_rfl
theorem checkT_v6 (t0 t1 t2 t3 t4 t5 : Int) : resOf (checkT_e6 t0 t1 t2 t3 t4 t5) = checkT_w6 t0 t1 t2 t3 t4 t5 := by kernel_rfl
theorem checkT_k6 (t0 t1 t2 t3 t4 t5 : Int) : cleanOf Tryz.prog.globals.size (checkT_e6 t0 t1 t2 t3 t4 t5) = true := by kernel_rfl
theorem checkT_q6 (t0 t1 t2 t3 t4 t5 : Int) : checkT_e6 t0 t1 t2 t3 t4 t5 = evFS Tryz.prog x_checkT 1000 9 #[.agg #[.int .i64 t0, .int .i64 t1, .int .i64 t2, .int .i64 t3, .int .i64 t4, .int .i64 t5]] (noTabs 6) ⟨[1, 0, 0, 1, 1, 0, 1, 2, 0, 1, 3, 1, 1, 0, 0, 1, 1, 1], True⟩ := by
  delta checkT_e6
  exact Eq.refl _
theorem checkT_p6 (t0 t1 t2 t3 t4 t5 : Int) (h : checkT_r6 t0 t1 t2 t3 t4 t5) (w : World) : Calls Tryz.prog 9 #[.agg #[.int .i64 t0, .int .i64 t1, .int .i64 t2, .int .i64 t3, .int .i64 t4, .int .i64 t5]] w fun en w' => en = .returned (checkT_w6 t0 t1 t2 t3 t4 t5) ∧ Below w.heap.size w w' := by
  have hv := checkT_v6 t0 t1 t2 t3 t4 t5
  have hc := checkT_k6 t0 t1 t2 t3 t4 t5
  have he := checkT_q6 t0 t1 t2 t3 t4 t5
  have ho := checkT_o6 t0 t1 t2 t3 t4 t5
  generalize checkT_e6 t0 t1 t2 t3 t4 t5 = r at *
  exact calls_way he gfol checkT_X hv rfl (checkT_args t0 t1 t2 t3 t4 t5) hc ho h (bl w)
def checkT_w7 (t0 t1 t2 t3 t4 t5 : Int) : Value := .int .i64 (Pl.cr t5 (-32768 : Int) (32767 : Int))
def checkT_r7 (t0 t1 t2 t3 t4 t5 : Int) : Prop := (((((((((((((((((((((((((((True ∧ (True)) ∧ (True)) ∧ ((true = true))) ∧ (((0 : Int) = (Int.ofNat 0)))) ∧ (True)) ∧ (checkT_c0 t0 t1 t2 t3 t4 t5 = false)) ∧ ((true = true))) ∧ (((1 : Int) = (Int.ofNat 1)))) ∧ (True)) ∧ (checkT_c1 t0 t1 t2 t3 t4 t5 = false)) ∧ ((true = true))) ∧ (((2 : Int) = (Int.ofNat 2)))) ∧ (True)) ∧ (checkT_c2 t0 t1 t2 t3 t4 t5 = false)) ∧ ((true = true))) ∧ (((3 : Int) = (Int.ofNat 3)))) ∧ (True)) ∧ (checkT_c3 t0 t1 t2 t3 t4 t5 = true)) ∧ ((true = true))) ∧ (((0 : Int) = (Int.ofNat 0)))) ∧ (checkT_c4 t0 t1 t2 t3 t4 t5 = false)) ∧ ((true = true))) ∧ (((1 : Int) = (Int.ofNat 1)))) ∧ (checkT_c5 t0 t1 t2 t3 t4 t5 = false)) ∧ ((true = true))) ∧ (((2 : Int) = (Int.ofNat 2)))) ∧ (checkT_c3 t0 t1 t2 t3 t4 t5 = true))
theorem checkT_o7 (t0 t1 t2 t3 t4 t5 : Int) : obOf (checkT_e7 t0 t1 t2 t3 t4 t5) = checkT_r7 t0 t1 t2 t3 t4 t5 := by kernel_rfl
theorem checkT_v7 (t0 t1 t2 t3 t4 t5 : Int) : resOf (checkT_e7 t0 t1 t2 t3 t4 t5) = checkT_w7 t0 t1 t2 t3 t4 t5 := by kernel_rfl
theorem checkT_k7 (t0 t1 t2 t3 t4 t5 : Int) : cleanOf Tryz.prog.globals.size (checkT_e7 t0 t1 t2 t3 t4 t5) = true := by kernel_rfl
theorem checkT_q7 (t0 t1 t2 t3 t4 t5 : Int) : checkT_e7 t0 t1 t2 t3 t4 t5 = evFS Tryz.prog x_checkT 1000 9 #[.agg #[.int .i64 t0, .int .i64 t1, .int .i64 t2, .int .i64 t3, .int .i64 t4, .int .i64 t5]] (noTabs 6) ⟨[1, 0, 0, 1, 1, 0, 1, 2, 0, 1, 3, 1, 1, 0, 0, 1, 1, 0, 1, 2, 1], True⟩ := by
  delta checkT_e7
  exact Eq.refl _
theorem checkT_p7 (t0 t1 t2 t3 t4 t5 : Int) (h : checkT_r7 t0 t1 t2 t3 t4 t5) (w : World) : Calls Tryz.prog 9 #[.agg #[.int .i64 t0, .int .i64 t1, .int .i64 t2, .int .i64 t3, .int .i64 t4, .int .i64 t5]] w fun en w' => en = .returned (checkT_w7 t0 t1 t2 t3 t4 t5) ∧ Below w.heap.size w w' := by
  have hv := checkT_v7 t0 t1 t2 t3 t4 t5
  have hc := checkT_k7 t0 t1 t2 t3 t4 t5
  have he := checkT_q7 t0 t1 t2 t3 t4 t5
  have ho := checkT_o7 t0 t1 t2 t3 t4 t5
  generalize checkT_e7 t0 t1 t2 t3 t4 t5 = r at *
  exact calls_way he gfol checkT_X hv rfl (checkT_args t0 t1 t2 t3 t4 t5) hc ho h (bl w)
def checkT_w8 (t0 t1 t2 t3 t4 t5 : Int) : Value := .int .i64 (Pl.cr t0 (0 : Int) (255 : Int))
def checkT_r8 (t0 t1 t2 t3 t4 t5 : Int) : Prop := (((((((((True ∧ (True)) ∧ (True)) ∧ ((true = true))) ∧ (((0 : Int) = (Int.ofNat 0)))) ∧ (True)) ∧ (checkT_c0 t0 t1 t2 t3 t4 t5 = true)) ∧ ((true = true))) ∧ (((0 : Int) = (Int.ofNat 0)))) ∧ (checkT_c4 t0 t1 t2 t3 t4 t5 = true))
theorem checkT_o8 (t0 t1 t2 t3 t4 t5 : Int) : obOf (checkT_e8 t0 t1 t2 t3 t4 t5) = checkT_r8 t0 t1 t2 t3 t4 t5 := by kernel_rfl
theorem checkT_v8 (t0 t1 t2 t3 t4 t5 : Int) : resOf (checkT_e8 t0 t1 t2 t3 t4 t5) = checkT_w8 t0 t1 t2 t3 t4 t5 := by kernel_rfl
theorem checkT_k8 (t0 t1 t2 t3 t4 t5 : Int) : cleanOf Tryz.prog.globals.size (checkT_e8 t0 t1 t2 t3 t4 t5) = true := by kernel_rfl
theorem checkT_q8 (t0 t1 t2 t3 t4 t5 : Int) : checkT_e8 t0 t1 t2 t3 t4 t5 = evFS Tryz.prog x_checkT 1000 9 #[.agg #[.int .i64 t0, .int .i64 t1, .int .i64 t2, .int .i64 t3, .int .i64 t4, .int .i64 t5]] (noTabs 6) ⟨[1, 0, 1, 1, 0, 1], True⟩ := by
  delta checkT_e8
  exact Eq.refl _
theorem checkT_p8 (t0 t1 t2 t3 t4 t5 : Int) (h : checkT_r8 t0 t1 t2 t3 t4 t5) (w : World) : Calls Tryz.prog 9 #[.agg #[.int .i64 t0, .int .i64 t1, .int .i64 t2, .int .i64 t3, .int .i64 t4, .int .i64 t5]] w fun en w' => en = .returned (checkT_w8 t0 t1 t2 t3 t4 t5) ∧ Below w.heap.size w w' := by
  have hv := checkT_v8 t0 t1 t2 t3 t4 t5
  have hc := checkT_k8 t0 t1 t2 t3 t4 t5
  have he := checkT_q8 t0 t1 t2 t3 t4 t5
  have ho := checkT_o8 t0 t1 t2 t3 t4 t5
  generalize checkT_e8 t0 t1 t2 t3 t4 t5 = r at *
  exact calls_way he gfol checkT_X hv rfl (checkT_args t0 t1 t2 t3 t4 t5) hc ho h (bl w)
def checkT_w9 (t0 t1 t2 t3 t4 t5 : Int) : Value := .int .i64 (Pl.cr t4 (-32768 : Int) (32767 : Int))
def checkT_r9 (t0 t1 t2 t3 t4 t5 : Int) : Prop := (((((((((((((((((((((((True ∧ (True)) ∧ (True)) ∧ ((true = true))) ∧ (((0 : Int) = (Int.ofNat 0)))) ∧ (True)) ∧ (checkT_c0 t0 t1 t2 t3 t4 t5 = false)) ∧ ((true = true))) ∧ (((1 : Int) = (Int.ofNat 1)))) ∧ (True)) ∧ (checkT_c1 t0 t1 t2 t3 t4 t5 = false)) ∧ ((true = true))) ∧ (((2 : Int) = (Int.ofNat 2)))) ∧ (True)) ∧ (checkT_c2 t0 t1 t2 t3 t4 t5 = true)) ∧ ((true = true))) ∧ (((0 : Int) = (Int.ofNat 0)))) ∧ (checkT_c4 t0 t1 t2 t3 t4 t5 = false)) ∧ ((true = true))) ∧ (((1 : Int) = (Int.ofNat 1)))) ∧ (checkT_c5 t0 t1 t2 t3 t4 t5 = false)) ∧ ((true = true))) ∧ (((2 : Int) = (Int.ofNat 2)))) ∧ (checkT_c2 t0 t1 t2 t3 t4 t5 = true))
theorem checkT_o9 (t0 t1 t2 t3 t4 t5 : Int) : obOf (checkT_e9 t0 t1 t2 t3 t4 t5) = checkT_r9 t0 t1 t2 t3 t4 t5 := by kernel_rfl
theorem checkT_v9 (t0 t1 t2 t3 t4 t5 : Int) : resOf (checkT_e9 t0 t1 t2 t3 t4 t5) = checkT_w9 t0 t1 t2 t3 t4 t5 := by kernel_rfl
theorem checkT_k9 (t0 t1 t2 t3 t4 t5 : Int) : cleanOf Tryz.prog.globals.size (checkT_e9 t0 t1 t2 t3 t4 t5) = true := by kernel_rfl
theorem checkT_q9 (t0 t1 t2 t3 t4 t5 : Int) : checkT_e9 t0 t1 t2 t3 t4 t5 = evFS Tryz.prog x_checkT 1000 9 #[.agg #[.int .i64 t0, .int .i64 t1, .int .i64 t2, .int .i64 t3, .int .i64 t4, .int .i64 t5]] (noTabs 6) ⟨[1, 0, 0, 1, 1, 0, 1, 2, 1, 1, 0, 0, 1, 1, 0, 1, 2, 1], True⟩ := by
  delta checkT_e9
  exact Eq.refl _
theorem checkT_p9 (t0 t1 t2 t3 t4 t5 : Int) (h : checkT_r9 t0 t1 t2 t3 t4 t5) (w : World) : Calls Tryz.prog 9 #[.agg #[.int .i64 t0, .int .i64 t1, .int .i64 t2, .int .i64 t3, .int .i64 t4, .int .i64 t5]] w fun en w' => en = .returned (checkT_w9 t0 t1 t2 t3 t4 t5) ∧ Below w.heap.size w w' := by
  have hv := checkT_v9 t0 t1 t2 t3 t4 t5
  have hc := checkT_k9 t0 t1 t2 t3 t4 t5
  have he := checkT_q9 t0 t1 t2 t3 t4 t5
  have ho := checkT_o9 t0 t1 t2 t3 t4 t5
  generalize checkT_e9 t0 t1 t2 t3 t4 t5 = r at *
  exact calls_way he gfol checkT_X hv rfl (checkT_args t0 t1 t2 t3 t4 t5) hc ho h (bl w)
def checkT_w10 (t0 t1 t2 t3 t4 t5 : Int) : Value := .int .i64 (Pl.cr t0 (0 : Int) (255 : Int))
def checkT_r10 (t0 t1 t2 t3 t4 t5 : Int) : Prop := (((((((((((((((((((((True ∧ (True)) ∧ (True)) ∧ ((true = true))) ∧ (((0 : Int) = (Int.ofNat 0)))) ∧ (True)) ∧ (checkT_c0 t0 t1 t2 t3 t4 t5 = false)) ∧ ((true = true))) ∧ (((1 : Int) = (Int.ofNat 1)))) ∧ (True)) ∧ (checkT_c1 t0 t1 t2 t3 t4 t5 = false)) ∧ ((true = true))) ∧ (((2 : Int) = (Int.ofNat 2)))) ∧ (True)) ∧ (checkT_c2 t0 t1 t2 t3 t4 t5 = false)) ∧ ((true = true))) ∧ (((3 : Int) = (Int.ofNat 3)))) ∧ (True)) ∧ (checkT_c3 t0 t1 t2 t3 t4 t5 = true)) ∧ ((true = true))) ∧ (((0 : Int) = (Int.ofNat 0)))) ∧ (checkT_c4 t0 t1 t2 t3 t4 t5 = true))
theorem checkT_o10 (t0 t1 t2 t3 t4 t5 : Int) : obOf (checkT_e10 t0 t1 t2 t3 t4 t5) = checkT_r10 t0 t1 t2 t3 t4 t5 := by kernel_rfl
theorem checkT_v10 (t0 t1 t2 t3 t4 t5 : Int) : resOf (checkT_e10 t0 t1 t2 t3 t4 t5) = checkT_w10 t0 t1 t2 t3 t4 t5 := by kernel_rfl
theorem checkT_k10 (t0 t1 t2 t3 t4 t5 : Int) : cleanOf Tryz.prog.globals.size (checkT_e10 t0 t1 t2 t3 t4 t5) = true := by kernel_rfl
theorem checkT_q10 (t0 t1 t2 t3 t4 t5 : Int) : checkT_e10 t0 t1 t2 t3 t4 t5 = evFS Tryz.prog x_checkT 1000 9 #[.agg #[.int .i64 t0, .int .i64 t1, .int .i64 t2, .int .i64 t3, .int .i64 t4, .int .i64 t5]] (noTabs 6) ⟨[1, 0, 0, 1, 1, 0, 1, 2, 0, 1, 3, 1, 1, 0, 1], True⟩ := by
  delta checkT_e10
  exact Eq.refl _
theorem checkT_p10 (t0 t1 t2 t3 t4 t5 : Int) (h : checkT_r10 t0 t1 t2 t3 t4 t5) (w : World) : Calls Tryz.prog 9 #[.agg #[.int .i64 t0, .int .i64 t1, .int .i64 t2, .int .i64 t3, .int .i64 t4, .int .i64 t5]] w fun en w' => en = .returned (checkT_w10 t0 t1 t2 t3 t4 t5) ∧ Below w.heap.size w w' := by
  have hv := checkT_v10 t0 t1 t2 t3 t4 t5
  have hc := checkT_k10 t0 t1 t2 t3 t4 t5
  have he := checkT_q10 t0 t1 t2 t3 t4 t5
  have ho := checkT_o10 t0 t1 t2 t3 t4 t5
  generalize checkT_e10 t0 t1 t2 t3 t4 t5 = r at *
  exact calls_way he gfol checkT_X hv rfl (checkT_args t0 t1 t2 t3 t4 t5) hc ho h (bl w)
def checkT_w11 (t0 t1 t2 t3 t4 t5 : Int) : Value := .int .i64 (Pl.cr t0 (0 : Int) (255 : Int))
def checkT_r11 (t0 t1 t2 t3 t4 t5 : Int) : Prop := (((((((((((((True ∧ (True)) ∧ (True)) ∧ ((true = true))) ∧ (((0 : Int) = (Int.ofNat 0)))) ∧ (True)) ∧ (checkT_c0 t0 t1 t2 t3 t4 t5 = false)) ∧ ((true = true))) ∧ (((1 : Int) = (Int.ofNat 1)))) ∧ (True)) ∧ (checkT_c1 t0 t1 t2 t3 t4 t5 = true)) ∧ ((true = true))) ∧ (((0 : Int) = (Int.ofNat 0)))) ∧ (checkT_c4 t0 t1 t2 t3 t4 t5 = true))
theorem checkT_o11 (t0 t1 t2 t3 t4 t5 : Int) : obOf (checkT_e11 t0 t1 t2 t3 t4 t5) = checkT_r11 t0 t1 t2 t3 t4 t5 := by kernel_rfl
theorem checkT_v11 (t0 t1 t2 t3 t4 t5 : Int) : resOf (checkT_e11 t0 t1 t2 t3 t4 t5) = checkT_w11 t0 t1 t2 t3 t4 t5 := by kernel_rfl
theorem checkT_k11 (t0 t1 t2 t3 t4 t5 : Int) : cleanOf Tryz.prog.globals.size (checkT_e11 t0 t1 t2 t3 t4 t5) = true := by kernel_rfl
theorem checkT_q11 (t0 t1 t2 t3 t4 t5 : Int) : checkT_e11 t0 t1 t2 t3 t4 t5 = evFS Tryz.prog x_checkT 1000 9 #[.agg #[.int .i64 t0, .int .i64 t1, .int .i64 t2, .int .i64 t3, .int .i64 t4, .int .i64 t5]] (noTabs 6) ⟨[1, 0, 0, 1, 1, 1, 1, 0, 1], True⟩ := by
  delta checkT_e11
  exact Eq.refl _
theorem checkT_p11 (t0 t1 t2 t3 t4 t5 : Int) (h : checkT_r11 t0 t1 t2 t3 t4 t5) (w : World) : Calls Tryz.prog 9 #[.agg #[.int .i64 t0, .int .i64 t1, .int .i64 t2, .int .i64 t3, .int .i64 t4, .int .i64 t5]] w fun en w' => en = .returned (checkT_w11 t0 t1 t2 t3 t4 t5) ∧ Below w.heap.size w w' := by
  have hv := checkT_v11 t0 t1 t2 t3 t4 t5
  have hc := checkT_k11 t0 t1 t2 t3 t4 t5
  have he := checkT_q11 t0 t1 t2 t3 t4 t5
  have ho := checkT_o11 t0 t1 t2 t3 t4 t5
  generalize checkT_e11 t0 t1 t2 t3 t4 t5 = r at *
  exact calls_way he gfol checkT_X hv rfl (checkT_args t0 t1 t2 t3 t4 t5) hc ho h (bl w)
def checkT_w12 (t0 t1 t2 t3 t4 t5 : Int) : Value := .int .i64 (Pl.cr t1 (0 : Int) (65535 : Int))
def checkT_r12 (t0 t1 t2 t3 t4 t5 : Int) : Prop := ((((((((((((((((((((True ∧ (True)) ∧ (True)) ∧ ((true = true))) ∧ (((0 : Int) = (Int.ofNat 0)))) ∧ (True)) ∧ (checkT_c0 t0 t1 t2 t3 t4 t5 = false)) ∧ ((true = true))) ∧ (((1 : Int) = (Int.ofNat 1)))) ∧ (True)) ∧ (checkT_c1 t0 t1 t2 t3 t4 t5 = false)) ∧ ((true = true))) ∧ (((2 : Int) = (Int.ofNat 2)))) ∧ (True)) ∧ (checkT_c2 t0 t1 t2 t3 t4 t5 = true)) ∧ ((true = true))) ∧ (((0 : Int) = (Int.ofNat 0)))) ∧ (checkT_c4 t0 t1 t2 t3 t4 t5 = false)) ∧ ((true = true))) ∧ (((1 : Int) = (Int.ofNat 1)))) ∧ (checkT_c5 t0 t1 t2 t3 t4 t5 = true))
theorem checkT_o12 (t0 t1 t2 t3 t4 t5 : Int) : obOf (checkT_e12 t0 t1 t2 t3 t4 t5) = checkT_r12 t0 t1 t2 t3 t4 t5 := by kernel_rfl
theorem checkT_v12 (t0 t1 t2 t3 t4 t5 : Int) : resOf (checkT_e12 t0 t1 t2 t3 t4 t5) = checkT_w12 t0 t1 t2 t3 t4 t5 := by kernel_rfl
theorem checkT_k12 (t0 t1 t2 t3 t4 t5 : Int) : cleanOf Tryz.prog.globals.size (checkT_e12 t0 t1 t2 t3 t4 t5) = true := by kernel_rfl
theorem checkT_q12 (t0 t1 t2 t3 t4 t5 : Int) : checkT_e12 t0 t1 t2 t3 t4 t5 = evFS Tryz.prog x_checkT 1000 9 #[.agg #[.int .i64 t0, .int .i64 t1, .int .i64 t2, .int .i64 t3, .int .i64 t4, .int .i64 t5]] (noTabs 6) ⟨[1, 0, 0, 1, 1, 0, 1, 2, 1, 1, 0, 0, 1, 1, 1], True⟩ := by
  delta checkT_e12
  exact Eq.refl _
theorem checkT_p12 (t0 t1 t2 t3 t4 t5 : Int) (h : checkT_r12 t0 t1 t2 t3 t4 t5) (w : World) : Calls Tryz.prog 9 #[.agg #[.int .i64 t0, .int .i64 t1, .int .i64 t2, .int .i64 t3, .int .i64 t4, .int .i64 t5]] w fun en w' => en = .returned (checkT_w12 t0 t1 t2 t3 t4 t5) ∧ Below w.heap.size w w' := by
  have hv := checkT_v12 t0 t1 t2 t3 t4 t5
  have hc := checkT_k12 t0 t1 t2 t3 t4 t5
  have he := checkT_q12 t0 t1 t2 t3 t4 t5
  have ho := checkT_o12 t0 t1 t2 t3 t4 t5
  generalize checkT_e12 t0 t1 t2 t3 t4 t5 = r at *
  exact calls_way he gfol checkT_X hv rfl (checkT_args t0 t1 t2 t3 t4 t5) hc ho h (bl w)
def checkT_w13 (t0 t1 t2 t3 t4 t5 : Int) : Value := .int .i64 (Pl.cr t0 (0 : Int) (255 : Int))
def checkT_r13 (t0 t1 t2 t3 t4 t5 : Int) : Prop := (((((((((((((((((True ∧ (True)) ∧ (True)) ∧ ((true = true))) ∧ (((0 : Int) = (Int.ofNat 0)))) ∧ (True)) ∧ (checkT_c0 t0 t1 t2 t3 t4 t5 = false)) ∧ ((true = true))) ∧ (((1 : Int) = (Int.ofNat 1)))) ∧ (True)) ∧ (checkT_c1 t0 t1 t2 t3 t4 t5 = false)) ∧ ((true = true))) ∧ (((2 : Int) = (Int.ofNat 2)))) ∧ (True)) ∧ (checkT_c2 t0 t1 t2 t3 t4 t5 = true)) ∧ ((true = true))) ∧ (((0 : Int) = (Int.ofNat 0)))) ∧ (checkT_c4 t0 t1 t2 t3 t4 t5 = true))
theorem checkT_o13 (t0 t1 t2 t3 t4 t5 : Int) : obOf (checkT_e13 t0 t1 t2 t3 t4 t5) = checkT_r13 t0 t1 t2 t3 t4 t5 := by kernel_rfl
theorem checkT_v13 (t0 t1 t2 t3 t4 t5 : Int) : resOf (checkT_e13 t0 t1 t2 t3 t4 t5) = checkT_w13 t0 t1 t2 t3 t4 t5 := by kernel_rfl
theorem checkT_k13 (t0 t1 t2 t3 t4 t5 : Int) : cleanOf Tryz.prog.globals.size (checkT_e13 t0 t1 t2 t3 t4 t5) = true := by kernel_rfl
theorem checkT_q13 (t0 t1 t2 t3 t4 t5 : Int) : checkT_e13 t0 t1 t2 t3 t4 t5 = evFS Tryz.prog x_checkT 1000 9 #[.agg #[.int .i64 t0, .int .i64 t1, .int .i64 t2, .int .i64 t3, .int .i64 t4, .int .i64 t5]] (noTabs 6) ⟨[1, 0, 0, 1, 1, 0, 1, 2, 1, 1, 0, 1], True⟩ := by
  delta checkT_e13
  exact Eq.refl _
theorem checkT_p13 (t0 t1 t2 t3 t4 t5 : Int) (h : checkT_r13 t0 t1 t2 t3 t4 t5) (w : World) : Calls Tryz.prog 9 #[.agg #[.int .i64 t0, .int .i64 t1, .int .i64 t2, .int .i64 t3, .int .i64 t4, .int .i64 t5]] w fun en w' => en = .returned (checkT_w13 t0 t1 t2 t3 t4 t5) ∧ Below w.heap.size w w' := by
  have hv := checkT_v13 t0 t1 t2 t3 t4 t5
  have hc := checkT_k13 t0 t1 t2 t3 t4 t5
  have he := checkT_q13 t0 t1 t2 t3 t4 t5
  have ho := checkT_o13 t0 t1 t2 t3 t4 t5
  generalize checkT_e13 t0 t1 t2 t3 t4 t5 = r at *
  exact calls_way he gfol checkT_X hv rfl (checkT_args t0 t1 t2 t3 t4 t5) hc ho h (bl w)
def checkT_w14 (t0 t1 t2 t3 t4 t5 : Int) : Value := .int .i64 (Pl.cr t1 (0 : Int) (65535 : Int))
def checkT_r14 (t0 t1 t2 t3 t4 t5 : Int) : Prop := ((((((((((((((((True ∧ (True)) ∧ (True)) ∧ ((true = true))) ∧ (((0 : Int) = (Int.ofNat 0)))) ∧ (True)) ∧ (checkT_c0 t0 t1 t2 t3 t4 t5 = false)) ∧ ((true = true))) ∧ (((1 : Int) = (Int.ofNat 1)))) ∧ (True)) ∧ (checkT_c1 t0 t1 t2 t3 t4 t5 = true)) ∧ ((true = true))) ∧ (((0 : Int) = (Int.ofNat 0)))) ∧ (checkT_c4 t0 t1 t2 t3 t4 t5 = false)) ∧ ((true = true))) ∧ (((1 : Int) = (Int.ofNat 1)))) ∧ (checkT_c5 t0 t1 t2 t3 t4 t5 = true))
theorem checkT_o14 (t0 t1 t2 t3 t4 t5 : Int) : obOf (checkT_e14 t0 t1 t2 t3 t4 t5) = checkT_r14 t0 t1 t2 t3 t4 t5 := by kernel_rfl
theorem checkT_v14 (t0 t1 t2 t3 t4 t5 : Int) : resOf (checkT_e14 t0 t1 t2 t3 t4 t5) = checkT_w14 t0 t1 t2 t3 t4 t5 := by kernel_rfl
theorem checkT_k14 (t0 t1 t2 t3 t4 t5 : Int) : cleanOf Tryz.prog.globals.size (checkT_e14 t0 t1 t2 t3 t4 t5) = true := by kernel_rfl
theorem checkT_q14 (t0 t1 t2 t3 t4 t5 : Int) : checkT_e14 t0 t1 t2 t3 t4 t5 = evFS Tryz.prog x_checkT 1000 9 #[.agg #[.int .i64 t0, .int .i64 t1, .int .i64 t2, .int .i64 t3, .int .i64 t4, .int .i64 t5]] (noTabs 6) ⟨[1, 0, 0, 1, 1, 1, 1, 0, 0, 1, 1, 1], True⟩ := by
  delta checkT_e14
  exact Eq.refl _
theorem checkT_p14 (t0 t1 t2 t3 t4 t5 : Int) (h : checkT_r14 t0 t1 t2 t3 t4 t5) (w : World) : Calls Tryz.prog 9 #[.agg #[.int .i64 t0, .int .i64 t1, .int .i64 t2, .int .i64 t3, .int .i64 t4, .int .i64 t5]] w fun en w' => en = .returned (checkT_w14 t0 t1 t2 t3 t4 t5) ∧ Below w.heap.size w w' := by
  have hv := checkT_v14 t0 t1 t2 t3 t4 t5
  have hc := checkT_k14 t0 t1 t2 t3 t4 t5
  have he := checkT_q14 t0 t1 t2 t3 t4 t5
  have ho := checkT_o14 t0 t1 t2 t3 t4 t5
  generalize checkT_e14 t0 t1 t2 t3 t4 t5 = r at *
  exact calls_way he gfol checkT_X hv rfl (checkT_args t0 t1 t2 t3 t4 t5) hc ho h (bl w)
theorem checkT_any (t0 t1 t2 t3 t4 t5 : Int) (hpre : True) (w : World) : Calls Tryz.prog 9 #[.agg #[.int .i64 t0, .int .i64 t1, .int .i64 t2, .int .i64 t3, .int .i64 t4, .int .i64 t5]] w fun en w' => en = .returned (checkT_val t0 t1 t2 t3 t4 t5) ∧ Below w.heap.size w w' := by
  rcases Bool.eq_false_or_eq_true (checkT_c0 t0 t1 t2 t3 t4 t5) with h0 | h0
  ·
    unfold checkT_c0 at h0
    rcases Bool.eq_false_or_eq_true (checkT_c4 t0 t1 t2 t3 t4 t5) with h1 | h1
    ·
      unfold checkT_c4 at h1
      have hp := checkT_p8 t0 t1 t2 t3 t4 t5 ⟨⟨⟨⟨⟨⟨⟨⟨⟨trivial, checkT_g0⟩, checkT_g0⟩, checkT_g1⟩, checkT_g2⟩, checkT_g0⟩, h0⟩, checkT_g1⟩, checkT_g2⟩, h1⟩ w
      have hv : checkT_w8 t0 t1 t2 t3 t4 t5 = (checkT_val t0 t1 t2 t3 t4 t5) := by
        clear hp
        unfold checkT_w8 checkT_val
        first | rfl | ((try simp only [bne_eq_false_iff_eq, bne_iff_ne, ne_eq, beq_iff_eq, beq_eq_false_iff_ne] at *); (try simp only [th6, *, ↓reduceIte]); done)
      exact hv ▸ hp
    ·
      unfold checkT_c4 at h1
      rcases Bool.eq_false_or_eq_true (checkT_c5 t0 t1 t2 t3 t4 t5) with h2 | h2
      ·
        unfold checkT_c5 at h2
        have hp := checkT_p1 t0 t1 t2 t3 t4 t5 ⟨⟨⟨⟨⟨⟨⟨⟨⟨⟨⟨⟨trivial, checkT_g0⟩, checkT_g0⟩, checkT_g1⟩, checkT_g2⟩, checkT_g0⟩, h0⟩, checkT_g1⟩, checkT_g2⟩, h1⟩, checkT_g1⟩, checkT_g4⟩, h2⟩ w
        have hv : checkT_w1 t0 t1 t2 t3 t4 t5 = (checkT_val t0 t1 t2 t3 t4 t5) := by
          clear hp
          unfold checkT_w1 checkT_val
          first | rfl | ((try simp only [bne_eq_false_iff_eq, bne_iff_ne, ne_eq, beq_iff_eq, beq_eq_false_iff_ne] at *); (try simp only [th6, *, ↓reduceIte]); done)
        exact hv ▸ hp
      ·
        unfold checkT_c5 at h2
        have hp := checkT_p3 t0 t1 t2 t3 t4 t5 ⟨⟨⟨⟨⟨⟨⟨⟨⟨⟨⟨⟨⟨⟨⟨trivial, checkT_g0⟩, checkT_g0⟩, checkT_g1⟩, checkT_g2⟩, checkT_g0⟩, h0⟩, checkT_g1⟩, checkT_g2⟩, h1⟩, checkT_g1⟩, checkT_g4⟩, h2⟩, checkT_g1⟩, checkT_g6⟩, h0⟩ w
        have hv : checkT_w3 t0 t1 t2 t3 t4 t5 = (checkT_val t0 t1 t2 t3 t4 t5) := by
          clear hp
          unfold checkT_w3 checkT_val
          first | rfl | ((try simp only [bne_eq_false_iff_eq, bne_iff_ne, ne_eq, beq_iff_eq, beq_eq_false_iff_ne] at *); (try simp only [th6, *, ↓reduceIte]); done)
        exact hv ▸ hp
  ·
    unfold checkT_c0 at h0
    rcases Bool.eq_false_or_eq_true (checkT_c1 t0 t1 t2 t3 t4 t5) with h3 | h3
    ·
      unfold checkT_c1 at h3
      rcases Bool.eq_false_or_eq_true (checkT_c4 t0 t1 t2 t3 t4 t5) with h4 | h4
      ·
        unfold checkT_c4 at h4
        have hp := checkT_p11 t0 t1 t2 t3 t4 t5 ⟨⟨⟨⟨⟨⟨⟨⟨⟨⟨⟨⟨⟨trivial, checkT_g0⟩, checkT_g0⟩, checkT_g1⟩, checkT_g2⟩, checkT_g0⟩, h0⟩, checkT_g1⟩, checkT_g4⟩, checkT_g0⟩, h3⟩, checkT_g1⟩, checkT_g2⟩, h4⟩ w
        have hv : checkT_w11 t0 t1 t2 t3 t4 t5 = (checkT_val t0 t1 t2 t3 t4 t5) := by
          clear hp
          unfold checkT_w11 checkT_val
          first | rfl | ((try simp only [bne_eq_false_iff_eq, bne_iff_ne, ne_eq, beq_iff_eq, beq_eq_false_iff_ne] at *); (try simp only [th6, *, ↓reduceIte]); done)
        exact hv ▸ hp
      ·
        unfold checkT_c4 at h4
        rcases Bool.eq_false_or_eq_true (checkT_c5 t0 t1 t2 t3 t4 t5) with h5 | h5
        ·
          unfold checkT_c5 at h5
          have hp := checkT_p14 t0 t1 t2 t3 t4 t5 ⟨⟨⟨⟨⟨⟨⟨⟨⟨⟨⟨⟨⟨⟨⟨⟨trivial, checkT_g0⟩, checkT_g0⟩, checkT_g1⟩, checkT_g2⟩, checkT_g0⟩, h0⟩, checkT_g1⟩, checkT_g4⟩, checkT_g0⟩, h3⟩, checkT_g1⟩, checkT_g2⟩, h4⟩, checkT_g1⟩, checkT_g4⟩, h5⟩ w
          have hv : checkT_w14 t0 t1 t2 t3 t4 t5 = (checkT_val t0 t1 t2 t3 t4 t5) := by
            clear hp
            unfold checkT_w14 checkT_val
            first | rfl | ((try simp only [bne_eq_false_iff_eq, bne_iff_ne, ne_eq, beq_iff_eq, beq_eq_false_iff_ne] at *); (try simp only [th6, *, ↓reduceIte]); done)
          exact hv ▸ hp
        ·
          unfold checkT_c5 at h5
          have hp := checkT_p4 t0 t1 t2 t3 t4 t5 ⟨⟨⟨⟨⟨⟨⟨⟨⟨⟨⟨⟨⟨⟨⟨⟨⟨⟨⟨trivial, checkT_g0⟩, checkT_g0⟩, checkT_g1⟩, checkT_g2⟩, checkT_g0⟩, h0⟩, checkT_g1⟩, checkT_g4⟩, checkT_g0⟩, h3⟩, checkT_g1⟩, checkT_g2⟩, h4⟩, checkT_g1⟩, checkT_g4⟩, h5⟩, checkT_g1⟩, checkT_g6⟩, h3⟩ w
          have hv : checkT_w4 t0 t1 t2 t3 t4 t5 = (checkT_val t0 t1 t2 t3 t4 t5) := by
            clear hp
            unfold checkT_w4 checkT_val
            first | rfl | ((try simp only [bne_eq_false_iff_eq, bne_iff_ne, ne_eq, beq_iff_eq, beq_eq_false_iff_ne] at *); (try simp only [th6, *, ↓reduceIte]); done)
          exact hv ▸ hp
    ·
      unfold checkT_c1 at h3
      rcases Bool.eq_false_or_eq_true (checkT_c2 t0 t1 t2 t3 t4 t5) with h6 | h6
      ·
        unfold checkT_c2 at h6
        rcases Bool.eq_false_or_eq_true (checkT_c4 t0 t1 t2 t3 t4 t5) with h7 | h7
        ·
          unfold checkT_c4 at h7
          have hp := checkT_p13 t0 t1 t2 t3 t4 t5 ⟨⟨⟨⟨⟨⟨⟨⟨⟨⟨⟨⟨⟨⟨⟨⟨⟨trivial, checkT_g0⟩, checkT_g0⟩, checkT_g1⟩, checkT_g2⟩, checkT_g0⟩, h0⟩, checkT_g1⟩, checkT_g4⟩, checkT_g0⟩, h3⟩, checkT_g1⟩, checkT_g6⟩, checkT_g0⟩, h6⟩, checkT_g1⟩, checkT_g2⟩, h7⟩ w
          have hv : checkT_w13 t0 t1 t2 t3 t4 t5 = (checkT_val t0 t1 t2 t3 t4 t5) := by
            clear hp
            unfold checkT_w13 checkT_val
            first | rfl | ((try simp only [bne_eq_false_iff_eq, bne_iff_ne, ne_eq, beq_iff_eq, beq_eq_false_iff_ne] at *); (try simp only [th6, *, ↓reduceIte]); done)
          exact hv ▸ hp
        ·
          unfold checkT_c4 at h7
          rcases Bool.eq_false_or_eq_true (checkT_c5 t0 t1 t2 t3 t4 t5) with h8 | h8
          ·
            unfold checkT_c5 at h8
            have hp := checkT_p12 t0 t1 t2 t3 t4 t5 ⟨⟨⟨⟨⟨⟨⟨⟨⟨⟨⟨⟨⟨⟨⟨⟨⟨⟨⟨⟨trivial, checkT_g0⟩, checkT_g0⟩, checkT_g1⟩, checkT_g2⟩, checkT_g0⟩, h0⟩, checkT_g1⟩, checkT_g4⟩, checkT_g0⟩, h3⟩, checkT_g1⟩, checkT_g6⟩, checkT_g0⟩, h6⟩, checkT_g1⟩, checkT_g2⟩, h7⟩, checkT_g1⟩, checkT_g4⟩, h8⟩ w
            have hv : checkT_w12 t0 t1 t2 t3 t4 t5 = (checkT_val t0 t1 t2 t3 t4 t5) := by
              clear hp
              unfold checkT_w12 checkT_val
              first | rfl | ((try simp only [bne_eq_false_iff_eq, bne_iff_ne, ne_eq, beq_iff_eq, beq_eq_false_iff_ne] at *); (try simp only [th6, *, ↓reduceIte]); done)
            exact hv ▸ hp
          ·
            unfold checkT_c5 at h8
            have hp := checkT_p9 t0 t1 t2 t3 t4 t5 ⟨⟨⟨⟨⟨⟨⟨⟨⟨⟨⟨⟨⟨⟨⟨⟨⟨⟨⟨⟨⟨⟨⟨trivial, checkT_g0⟩, checkT_g0⟩, checkT_g1⟩, checkT_g2⟩, checkT_g0⟩, h0⟩, checkT_g1⟩, checkT_g4⟩, checkT_g0⟩, h3⟩, checkT_g1⟩, checkT_g6⟩, checkT_g0⟩, h6⟩, checkT_g1⟩, checkT_g2⟩, h7⟩, checkT_g1⟩, checkT_g4⟩, h8⟩, checkT_g1⟩, checkT_g6⟩, h6⟩ w
            have hv : checkT_w9 t0 t1 t2 t3 t4 t5 = (checkT_val t0 t1 t2 t3 t4 t5) := by
              clear hp
              unfold checkT_w9 checkT_val
              first | rfl | ((try simp only [bne_eq_false_iff_eq, bne_iff_ne, ne_eq, beq_iff_eq, beq_eq_false_iff_ne] at *); (try simp only [th6, *, ↓reduceIte]); done)
            exact hv ▸ hp
      ·
        unfold checkT_c2 at h6
        rcases Bool.eq_false_or_eq_true (checkT_c3 t0 t1 t2 t3 t4 t5) with h9 | h9
        ·
          unfold checkT_c3 at h9
          rcases Bool.eq_false_or_eq_true (checkT_c4 t0 t1 t2 t3 t4 t5) with h10 | h10
          ·
            unfold checkT_c4 at h10
            have hp := checkT_p10 t0 t1 t2 t3 t4 t5 ⟨⟨⟨⟨⟨⟨⟨⟨⟨⟨⟨⟨⟨⟨⟨⟨⟨⟨⟨⟨⟨trivial, checkT_g0⟩, checkT_g0⟩, checkT_g1⟩, checkT_g2⟩, checkT_g0⟩, h0⟩, checkT_g1⟩, checkT_g4⟩, checkT_g0⟩, h3⟩, checkT_g1⟩, checkT_g6⟩, checkT_g0⟩, h6⟩, checkT_g1⟩, checkT_g8⟩, checkT_g0⟩, h9⟩, checkT_g1⟩, checkT_g2⟩, h10⟩ w
            have hv : checkT_w10 t0 t1 t2 t3 t4 t5 = (checkT_val t0 t1 t2 t3 t4 t5) := by
              clear hp
              unfold checkT_w10 checkT_val
              first | rfl | ((try simp only [bne_eq_false_iff_eq, bne_iff_ne, ne_eq, beq_iff_eq, beq_eq_false_iff_ne] at *); (try simp only [th6, *, ↓reduceIte]); done)
            exact hv ▸ hp
          ·
            unfold checkT_c4 at h10
            rcases Bool.eq_false_or_eq_true (checkT_c5 t0 t1 t2 t3 t4 t5) with h11 | h11
            ·
              unfold checkT_c5 at h11
              have hp := checkT_p6 t0 t1 t2 t3 t4 t5 ⟨⟨⟨⟨⟨⟨⟨⟨⟨⟨⟨⟨⟨⟨⟨⟨⟨⟨⟨⟨⟨⟨⟨⟨trivial, checkT_g0⟩, checkT_g0⟩, checkT_g1⟩, checkT_g2⟩, checkT_g0⟩, h0⟩, checkT_g1⟩, checkT_g4⟩, checkT_g0⟩, h3⟩, checkT_g1⟩, checkT_g6⟩, checkT_g0⟩, h6⟩, checkT_g1⟩, checkT_g8⟩, checkT_g0⟩, h9⟩, checkT_g1⟩, checkT_g2⟩, h10⟩, checkT_g1⟩, checkT_g4⟩, h11⟩ w
              have hv : checkT_w6 t0 t1 t2 t3 t4 t5 = (checkT_val t0 t1 t2 t3 t4 t5) := by
                clear hp
                unfold checkT_w6 checkT_val
                first | rfl | ((try simp only [bne_eq_false_iff_eq, bne_iff_ne, ne_eq, beq_iff_eq, beq_eq_false_iff_ne] at *); (try simp only [th6, *, ↓reduceIte]); done)
              exact hv ▸ hp
            ·
              unfold checkT_c5 at h11
              have hp := checkT_p7 t0 t1 t2 t3 t4 t5 ⟨⟨⟨⟨⟨⟨⟨⟨⟨⟨⟨⟨⟨⟨⟨⟨⟨⟨⟨⟨⟨⟨⟨⟨⟨⟨⟨trivial, checkT_g0⟩, checkT_g0⟩, checkT_g1⟩, checkT_g2⟩, checkT_g0⟩, h0⟩, checkT_g1⟩, checkT_g4⟩, checkT_g0⟩, h3⟩, checkT_g1⟩, checkT_g6⟩, checkT_g0⟩, h6⟩, checkT_g1⟩, checkT_g8⟩, checkT_g0⟩, h9⟩, checkT_g1⟩, checkT_g2⟩, h10⟩, checkT_g1⟩, checkT_g4⟩, h11⟩, checkT_g1⟩, checkT_g6⟩, h9⟩ w
              have hv : checkT_w7 t0 t1 t2 t3 t4 t5 = (checkT_val t0 t1 t2 t3 t4 t5) := by
                clear hp
                unfold checkT_w7 checkT_val
                first | rfl | ((try simp only [bne_eq_false_iff_eq, bne_iff_ne, ne_eq, beq_iff_eq, beq_eq_false_iff_ne] at *); (try simp only [th6, *, ↓reduceIte]); done)
              exact hv ▸ hp
        ·
          unfold checkT_c3 at h9
          rcases Bool.eq_false_or_eq_true (checkT_c4 t0 t1 t2 t3 t4 t5) with h12 | h12
          ·
            unfold checkT_c4 at h12
            have hp := checkT_p2 t0 t1 t2 t3 t4 t5 ⟨⟨⟨⟨⟨⟨⟨⟨⟨⟨⟨⟨⟨⟨⟨⟨⟨⟨⟨⟨⟨⟨trivial, checkT_g0⟩, checkT_g0⟩, checkT_g1⟩, checkT_g2⟩, checkT_g0⟩, h0⟩, checkT_g1⟩, checkT_g4⟩, checkT_g0⟩, h3⟩, checkT_g1⟩, checkT_g6⟩, checkT_g0⟩, h6⟩, checkT_g1⟩, checkT_g8⟩, checkT_g0⟩, h9⟩, checkT_g10⟩, checkT_g1⟩, checkT_g2⟩, h12⟩ w
            have hv : checkT_w2 t0 t1 t2 t3 t4 t5 = (checkT_val t0 t1 t2 t3 t4 t5) := by
              clear hp
              unfold checkT_w2 checkT_val
              first | rfl | ((try simp only [bne_eq_false_iff_eq, bne_iff_ne, ne_eq, beq_iff_eq, beq_eq_false_iff_ne] at *); (try simp only [th6, *, ↓reduceIte]); done)
            exact hv ▸ hp
          ·
            unfold checkT_c4 at h12
            rcases Bool.eq_false_or_eq_true (checkT_c5 t0 t1 t2 t3 t4 t5) with h13 | h13
            ·
              unfold checkT_c5 at h13
              have hp := checkT_p5 t0 t1 t2 t3 t4 t5 ⟨⟨⟨⟨⟨⟨⟨⟨⟨⟨⟨⟨⟨⟨⟨⟨⟨⟨⟨⟨⟨⟨⟨⟨⟨trivial, checkT_g0⟩, checkT_g0⟩, checkT_g1⟩, checkT_g2⟩, checkT_g0⟩, h0⟩, checkT_g1⟩, checkT_g4⟩, checkT_g0⟩, h3⟩, checkT_g1⟩, checkT_g6⟩, checkT_g0⟩, h6⟩, checkT_g1⟩, checkT_g8⟩, checkT_g0⟩, h9⟩, checkT_g10⟩, checkT_g1⟩, checkT_g2⟩, h12⟩, checkT_g1⟩, checkT_g4⟩, h13⟩ w
              have hv : checkT_w5 t0 t1 t2 t3 t4 t5 = (checkT_val t0 t1 t2 t3 t4 t5) := by
                clear hp
                unfold checkT_w5 checkT_val
                first | rfl | ((try simp only [bne_eq_false_iff_eq, bne_iff_ne, ne_eq, beq_iff_eq, beq_eq_false_iff_ne] at *); (try simp only [th6, *, ↓reduceIte]); done)
              exact hv ▸ hp
            ·
              unfold checkT_c5 at h13
              have hp := checkT_p0 t0 t1 t2 t3 t4 t5 ⟨⟨⟨⟨⟨⟨⟨⟨⟨⟨⟨⟨⟨⟨⟨⟨⟨⟨⟨⟨⟨⟨⟨⟨⟨⟨⟨⟨⟨trivial, checkT_g0⟩, checkT_g0⟩, checkT_g1⟩, checkT_g2⟩, checkT_g0⟩, h0⟩, checkT_g1⟩, checkT_g4⟩, checkT_g0⟩, h3⟩, checkT_g1⟩, checkT_g6⟩, checkT_g0⟩, h6⟩, checkT_g1⟩, checkT_g8⟩, checkT_g0⟩, h9⟩, checkT_g10⟩, checkT_g1⟩, checkT_g2⟩, h12⟩, checkT_g1⟩, checkT_g4⟩, h13⟩, checkT_g1⟩, checkT_g6⟩, checkT_g10⟩, checkT_g10⟩ w
              have hv : checkT_w0 t0 t1 t2 t3 t4 t5 = (checkT_val t0 t1 t2 t3 t4 t5) := by
                clear hp
                unfold checkT_w0 checkT_val
                first | rfl | ((try simp only [bne_eq_false_iff_eq, bne_iff_ne, ne_eq, beq_iff_eq, beq_eq_false_iff_ne] at *); (try simp only [th6, *, ↓reduceIte]); done)
              exact hv ▸ hp
theorem k_checkT : ConOk Tryz.prog c_checkT := fun ns hl => by
  have hl0 : ns.length = 6 := hl
  clear hl
  obtain ⟨t0, ns0, rfl, hl1⟩ := len_cons hl0
  obtain ⟨t1, ns1, rfl, hl2⟩ := len_cons hl1
  obtain ⟨t2, ns2, rfl, hl3⟩ := len_cons hl2
  obtain ⟨t3, ns3, rfl, hl4⟩ := len_cons hl3
  obtain ⟨t4, ns4, rfl, hl5⟩ := len_cons hl4
  obtain ⟨t5, ns5, rfl, hl6⟩ := len_cons hl5
  obtain rfl := len_nil hl6
  exact ⟨rfl, fun h w => checkT_any t0 t1 t2 t3 t4 t5 h w⟩
end Go.Proofs.YtgapibngfpafpaaGreatDoor
end
section
set_option linter.all false
set_option maxRecDepth 1000000
set_option maxHeartbeats 2000000
open Go.RowKit
namespace Go.Proofs.YtgapibngfpafpaaGreatDoor
open Mini

def encode_val (t0 t1 t2 t3 t4 t5 : Int) : Value := .tuple #[.agg #[.int .u8 (cz (th6 (Pl.cr t0 0 255) (Pl.cr t1 0 65535) (Pl.cr t2 (-32768) 32767) (Pl.cr t3 (-32768) 32767) (Pl.cr t4 (-32768) 32767) (Pl.cr t5 (-32768) 32767)) (177)), .int .u8 (cz (th6 (Pl.cr t0 0 255) (Pl.cr t1 0 65535) (Pl.cr t2 (-32768) 32767) (Pl.cr t3 (-32768) 32767) (Pl.cr t4 (-32768) 32767) (Pl.cr t5 (-32768) 32767)) (t0 % 256)), .int .u8 (cz (th6 (Pl.cr t0 0 255) (Pl.cr t1 0 65535) (Pl.cr t2 (-32768) 32767) (Pl.cr t3 (-32768) 32767) (Pl.cr t4 (-32768) 32767) (Pl.cr t5 (-32768) 32767)) (t1 / 256 % 256)), .int .u8 (cz (th6 (Pl.cr t0 0 255) (Pl.cr t1 0 65535) (Pl.cr t2 (-32768) 32767) (Pl.cr t3 (-32768) 32767) (Pl.cr t4 (-32768) 32767) (Pl.cr t5 (-32768) 32767)) (t1 % 256)), .int .u8 (cz (th6 (Pl.cr t0 0 255) (Pl.cr t1 0 65535) (Pl.cr t2 (-32768) 32767) (Pl.cr t3 (-32768) 32767) (Pl.cr t4 (-32768) 32767) (Pl.cr t5 (-32768) 32767)) (t2 / 256 % 256)), .int .u8 (cz (th6 (Pl.cr t0 0 255) (Pl.cr t1 0 65535) (Pl.cr t2 (-32768) 32767) (Pl.cr t3 (-32768) 32767) (Pl.cr t4 (-32768) 32767) (Pl.cr t5 (-32768) 32767)) (t2 % 256)), .int .u8 (cz (th6 (Pl.cr t0 0 255) (Pl.cr t1 0 65535) (Pl.cr t2 (-32768) 32767) (Pl.cr t3 (-32768) 32767) (Pl.cr t4 (-32768) 32767) (Pl.cr t5 (-32768) 32767)) (t3 / 256 % 256)), .int .u8 (cz (th6 (Pl.cr t0 0 255) (Pl.cr t1 0 65535) (Pl.cr t2 (-32768) 32767) (Pl.cr t3 (-32768) 32767) (Pl.cr t4 (-32768) 32767) (Pl.cr t5 (-32768) 32767)) (t3 % 256)), .int .u8 (cz (th6 (Pl.cr t0 0 255) (Pl.cr t1 0 65535) (Pl.cr t2 (-32768) 32767) (Pl.cr t3 (-32768) 32767) (Pl.cr t4 (-32768) 32767) (Pl.cr t5 (-32768) 32767)) (t4 / 256 % 256)), .int .u8 (cz (th6 (Pl.cr t0 0 255) (Pl.cr t1 0 65535) (Pl.cr t2 (-32768) 32767) (Pl.cr t3 (-32768) 32767) (Pl.cr t4 (-32768) 32767) (Pl.cr t5 (-32768) 32767)) (t4 % 256)), .int .u8 (cz (th6 (Pl.cr t0 0 255) (Pl.cr t1 0 65535) (Pl.cr t2 (-32768) 32767) (Pl.cr t3 (-32768) 32767) (Pl.cr t4 (-32768) 32767) (Pl.cr t5 (-32768) 32767)) (t5 / 256 % 256)), .int .u8 (cz (th6 (Pl.cr t0 0 255) (Pl.cr t1 0 65535) (Pl.cr t2 (-32768) 32767) (Pl.cr t3 (-32768) 32767) (Pl.cr t4 (-32768) 32767) (Pl.cr t5 (-32768) 32767)) (t5 % 256)), .int .u8 (cz (th6 (Pl.cr t0 0 255) (Pl.cr t1 0 65535) (Pl.cr t2 (-32768) 32767) (Pl.cr t3 (-32768) 32767) (Pl.cr t4 (-32768) 32767) (Pl.cr t5 (-32768) 32767)) ((csT t0 t1 t2 t3 t4 t5) / 16777216 % 256)), .int .u8 (cz (th6 (Pl.cr t0 0 255) (Pl.cr t1 0 65535) (Pl.cr t2 (-32768) 32767) (Pl.cr t3 (-32768) 32767) (Pl.cr t4 (-32768) 32767) (Pl.cr t5 (-32768) 32767)) ((csT t0 t1 t2 t3 t4 t5) / 65536 % 256)), .int .u8 (cz (th6 (Pl.cr t0 0 255) (Pl.cr t1 0 65535) (Pl.cr t2 (-32768) 32767) (Pl.cr t3 (-32768) 32767) (Pl.cr t4 (-32768) 32767) (Pl.cr t5 (-32768) 32767)) ((csT t0 t1 t2 t3 t4 t5) / 256 % 256)), .int .u8 (cz (th6 (Pl.cr t0 0 255) (Pl.cr t1 0 65535) (Pl.cr t2 (-32768) 32767) (Pl.cr t3 (-32768) 32767) (Pl.cr t4 (-32768) 32767) (Pl.cr t5 (-32768) 32767)) ((csT t0 t1 t2 t3 t4 t5) % 256))], .int .i64 (th6 (Pl.cr t0 0 255) (Pl.cr t1 0 65535) (Pl.cr t2 (-32768) 32767) (Pl.cr t3 (-32768) 32767) (Pl.cr t4 (-32768) 32767) (Pl.cr t5 (-32768) 32767))]
theorem encode_X : FOkS Tryz.prog x_encode := kAll_ok _ ⟨k_checkT, trivial⟩
theorem encode_args (t0 t1 t2 t3 t4 t5 : Int) : (#[.agg #[.int .i64 t0, .int .i64 t1, .int .i64 t2, .int .i64 t3, .int .i64 t4, .int .i64 t5]] : Array Value).toList.all (ground 8) = true := by kernel_rfl
theorem encode_g0 : True := by first | rfl | trivial | decide | omega
def encode_c0 (t0 t1 t2 t3 t4 t5 : Int) : Bool := ((th6 (Pl.cr t0 (0 : Int) (255 : Int)) (Pl.cr t1 (0 : Int) (65535 : Int)) (Pl.cr t2 (-32768 : Int) (32767 : Int)) (Pl.cr t3 (-32768 : Int) (32767 : Int)) (Pl.cr t4 (-32768 : Int) (32767 : Int)) (Pl.cr t5 (-32768 : Int) (32767 : Int))) != (0 : Int))
theorem encode_g2 : (true = true) := by first | rfl | trivial | decide | omega
theorem encode_g3 : (false = false) := by first | rfl | trivial | decide | omega
theorem encode_g4 : ((0 : Int) = (Int.ofNat 0)) := by first | rfl | trivial | decide | omega
theorem encode_g5 : ((1 : Int) = (Int.ofNat 1)) := by first | rfl | trivial | decide | omega
theorem encode_g6 : ((2 : Int) = (Int.ofNat 2)) := by first | rfl | trivial | decide | omega
theorem encode_g7 : ((3 : Int) = (Int.ofNat 3)) := by first | rfl | trivial | decide | omega
theorem encode_g8 : ((4 : Int) = (Int.ofNat 4)) := by first | rfl | trivial | decide | omega
theorem encode_g9 : ((5 : Int) = (Int.ofNat 5)) := by first | rfl | trivial | decide | omega
theorem encode_g10 : ((6 : Int) = (Int.ofNat 6)) := by first | rfl | trivial | decide | omega
theorem encode_g11 : ((7 : Int) = (Int.ofNat 7)) := by first | rfl | trivial | decide | omega
theorem encode_g12 : ((8 : Int) = (Int.ofNat 8)) := by first | rfl | trivial | decide | omega
theorem encode_g13 : ((9 : Int) = (Int.ofNat 9)) := by first | rfl | trivial | decide | omega
theorem encode_g14 : ((10 : Int) = (Int.ofNat 10)) := by first | rfl | trivial | decide | omega
theorem encode_g15 : ((11 : Int) = (Int.ofNat 11)) := by first | rfl | trivial | decide | omega
def encode_w0 (t0 t1 t2 t3 t4 t5 : Int) : Value := .tuple #[.agg #[.int .u8 (177 : Int), .int .u8 (Go.IntKind.wrap Go.IntKind.u8 t0), .int .u8 (Go.IntKind.wrap Go.IntKind.u8 (Int.fdiv t1 (256 : Int))), .int .u8 (Go.IntKind.wrap Go.IntKind.u8 (Int.fdiv t1 (1 : Int))), .int .u8 (Go.IntKind.wrap Go.IntKind.u8 (Int.fdiv t2 (256 : Int))), .int .u8 (Go.IntKind.wrap Go.IntKind.u8 (Int.fdiv t2 (1 : Int))), .int .u8 (Go.IntKind.wrap Go.IntKind.u8 (Int.fdiv t3 (256 : Int))), .int .u8 (Go.IntKind.wrap Go.IntKind.u8 (Int.fdiv t3 (1 : Int))), .int .u8 (Go.IntKind.wrap Go.IntKind.u8 (Int.fdiv t4 (256 : Int))), .int .u8 (Go.IntKind.wrap Go.IntKind.u8 (Int.fdiv t4 (1 : Int))), .int .u8 (Go.IntKind.wrap Go.IntKind.u8 (Int.fdiv t5 (256 : Int))), .int .u8 (Go.IntKind.wrap Go.IntKind.u8 (Int.fdiv t5 (1 : Int))), .int .u8 (Go.IntKind.wrap Go.IntKind.u8 (Int.fdiv (Int.tmod (IntKind.i64.wrap ((IntKind.i64.wrap ((263 : Int) * (Int.tmod (IntKind.i64.wrap ((IntKind.i64.wrap ((263 : Int) * (Int.tmod (IntKind.i64.wrap ((IntKind.i64.wrap ((263 : Int) * (Int.tmod (IntKind.i64.wrap ((IntKind.i64.wrap ((263 : Int) * (Int.tmod (IntKind.i64.wrap ((IntKind.i64.wrap ((263 : Int) * (Int.tmod (IntKind.i64.wrap ((IntKind.i64.wrap ((263 : Int) * (Int.tmod (IntKind.i64.wrap ((IntKind.i64.wrap ((263 : Int) * (Int.tmod (IntKind.i64.wrap ((IntKind.i64.wrap ((263 : Int) * (Int.tmod (IntKind.i64.wrap ((IntKind.i64.wrap ((263 : Int) * (Int.tmod (IntKind.i64.wrap ((IntKind.i64.wrap ((263 : Int) * (Int.tmod (IntKind.i64.wrap ((115720 : Int) + (IntKind.i64.wrap (Go.IntKind.wrap Go.IntKind.u8 t0)))) (16777199 : Int)))) + (IntKind.i64.wrap (Go.IntKind.wrap Go.IntKind.u8 (Int.fdiv t1 (256 : Int)))))) (16777199 : Int)))) + (IntKind.i64.wrap (Go.IntKind.wrap Go.IntKind.u8 (Int.fdiv t1 (1 : Int)))))) (16777199 : Int)))) + (IntKind.i64.wrap (Go.IntKind.wrap Go.IntKind.u8 (Int.fdiv t2 (256 : Int)))))) (16777199 : Int)))) + (IntKind.i64.wrap (Go.IntKind.wrap Go.IntKind.u8 (Int.fdiv t2 (1 : Int)))))) (16777199 : Int)))) + (IntKind.i64.wrap (Go.IntKind.wrap Go.IntKind.u8 (Int.fdiv t3 (256 : Int)))))) (16777199 : Int)))) + (IntKind.i64.wrap (Go.IntKind.wrap Go.IntKind.u8 (Int.fdiv t3 (1 : Int)))))) (16777199 : Int)))) + (IntKind.i64.wrap (Go.IntKind.wrap Go.IntKind.u8 (Int.fdiv t4 (256 : Int)))))) (16777199 : Int)))) + (IntKind.i64.wrap (Go.IntKind.wrap Go.IntKind.u8 (Int.fdiv t4 (1 : Int)))))) (16777199 : Int)))) + (IntKind.i64.wrap (Go.IntKind.wrap Go.IntKind.u8 (Int.fdiv t5 (256 : Int)))))) (16777199 : Int)))) + (IntKind.i64.wrap (Go.IntKind.wrap Go.IntKind.u8 (Int.fdiv t5 (1 : Int)))))) (16777199 : Int)) (16777216 : Int))), .int .u8 (Go.IntKind.wrap Go.IntKind.u8 (Int.fdiv (Int.tmod (IntKind.i64.wrap ((IntKind.i64.wrap ((263 : Int) * (Int.tmod (IntKind.i64.wrap ((IntKind.i64.wrap ((263 : Int) * (Int.tmod (IntKind.i64.wrap ((IntKind.i64.wrap ((263 : Int) * (Int.tmod (IntKind.i64.wrap ((IntKind.i64.wrap ((263 : Int) * (Int.tmod (IntKind.i64.wrap ((IntKind.i64.wrap ((263 : Int) * (Int.tmod (IntKind.i64.wrap ((IntKind.i64.wrap ((263 : Int) * (Int.tmod (IntKind.i64.wrap ((IntKind.i64.wrap ((263 : Int) * (Int.tmod (IntKind.i64.wrap ((IntKind.i64.wrap ((263 : Int) * (Int.tmod (IntKind.i64.wrap ((IntKind.i64.wrap ((263 : Int) * (Int.tmod (IntKind.i64.wrap ((IntKind.i64.wrap ((263 : Int) * (Int.tmod (IntKind.i64.wrap ((115720 : Int) + (IntKind.i64.wrap (Go.IntKind.wrap Go.IntKind.u8 t0)))) (16777199 : Int)))) + (IntKind.i64.wrap (Go.IntKind.wrap Go.IntKind.u8 (Int.fdiv t1 (256 : Int)))))) (16777199 : Int)))) + (IntKind.i64.wrap (Go.IntKind.wrap Go.IntKind.u8 (Int.fdiv t1 (1 : Int)))))) (16777199 : Int)))) + (IntKind.i64.wrap (Go.IntKind.wrap Go.IntKind.u8 (Int.fdiv t2 (256 : Int)))))) (16777199 : Int)))) + (IntKind.i64.wrap (Go.IntKind.wrap Go.IntKind.u8 (Int.fdiv t2 (1 : Int)))))) (16777199 : Int)))) + (IntKind.i64.wrap (Go.IntKind.wrap Go.IntKind.u8 (Int.fdiv t3 (256 : Int)))))) (16777199 : Int)))) + (IntKind.i64.wrap (Go.IntKind.wrap Go.IntKind.u8 (Int.fdiv t3 (1 : Int)))))) (16777199 : Int)))) + (IntKind.i64.wrap (Go.IntKind.wrap Go.IntKind.u8 (Int.fdiv t4 (256 : Int)))))) (16777199 : Int)))) + (IntKind.i64.wrap (Go.IntKind.wrap Go.IntKind.u8 (Int.fdiv t4 (1 : Int)))))) (16777199 : Int)))) + (IntKind.i64.wrap (Go.IntKind.wrap Go.IntKind.u8 (Int.fdiv t5 (256 : Int)))))) (16777199 : Int)))) + (IntKind.i64.wrap (Go.IntKind.wrap Go.IntKind.u8 (Int.fdiv t5 (1 : Int)))))) (16777199 : Int)) (65536 : Int))), .int .u8 (Go.IntKind.wrap Go.IntKind.u8 (Int.fdiv (Int.tmod (IntKind.i64.wrap ((IntKind.i64.wrap ((263 : Int) * (Int.tmod (IntKind.i64.wrap ((IntKind.i64.wrap ((263 : Int) * (Int.tmod (IntKind.i64.wrap ((IntKind.i64.wrap ((263 : Int) * (Int.tmod (IntKind.i64.wrap ((IntKind.i64.wrap ((263 : Int) * (Int.tmod (IntKind.i64.wrap ((IntKind.i64.wrap ((263 : Int) * (Int.tmod (IntKind.i64.wrap ((IntKind.i64.wrap ((263 : Int) * (Int.tmod (IntKind.i64.wrap ((IntKind.i64.wrap ((263 : Int) * (Int.tmod (IntKind.i64.wrap ((IntKind.i64.wrap ((263 : Int) * (Int.tmod (IntKind.i64.wrap ((IntKind.i64.wrap ((263 : Int) * (Int.tmod (IntKind.i64.wrap ((IntKind.i64.wrap ((263 : Int) * (Int.tmod (IntKind.i64.wrap ((115720 : Int) + (IntKind.i64.wrap (Go.IntKind.wrap Go.IntKind.u8 t0)))) (16777199 : Int)))) + (IntKind.i64.wrap (Go.IntKind.wrap Go.IntKind.u8 (Int.fdiv t1 (256 : Int)))))) (16777199 : Int)))) + (IntKind.i64.wrap (Go.IntKind.wrap Go.IntKind.u8 (Int.fdiv t1 (1 : Int)))))) (16777199 : Int)))) + (IntKind.i64.wrap (Go.IntKind.wrap Go.IntKind.u8 (Int.fdiv t2 (256 : Int)))))) (16777199 : Int)))) + (IntKind.i64.wrap (Go.IntKind.wrap Go.IntKind.u8 (Int.fdiv t2 (1 : Int)))))) (16777199 : Int)))) + (IntKind.i64.wrap (Go.IntKind.wrap Go.IntKind.u8 (Int.fdiv t3 (256 : Int)))))) (16777199 : Int)))) + (IntKind.i64.wrap (Go.IntKind.wrap Go.IntKind.u8 (Int.fdiv t3 (1 : Int)))))) (16777199 : Int)))) + (IntKind.i64.wrap (Go.IntKind.wrap Go.IntKind.u8 (Int.fdiv t4 (256 : Int)))))) (16777199 : Int)))) + (IntKind.i64.wrap (Go.IntKind.wrap Go.IntKind.u8 (Int.fdiv t4 (1 : Int)))))) (16777199 : Int)))) + (IntKind.i64.wrap (Go.IntKind.wrap Go.IntKind.u8 (Int.fdiv t5 (256 : Int)))))) (16777199 : Int)))) + (IntKind.i64.wrap (Go.IntKind.wrap Go.IntKind.u8 (Int.fdiv t5 (1 : Int)))))) (16777199 : Int)) (256 : Int))), .int .u8 (Go.IntKind.wrap Go.IntKind.u8 (Int.fdiv (Int.tmod (IntKind.i64.wrap ((IntKind.i64.wrap ((263 : Int) * (Int.tmod (IntKind.i64.wrap ((IntKind.i64.wrap ((263 : Int) * (Int.tmod (IntKind.i64.wrap ((IntKind.i64.wrap ((263 : Int) * (Int.tmod (IntKind.i64.wrap ((IntKind.i64.wrap ((263 : Int) * (Int.tmod (IntKind.i64.wrap ((IntKind.i64.wrap ((263 : Int) * (Int.tmod (IntKind.i64.wrap ((IntKind.i64.wrap ((263 : Int) * (Int.tmod (IntKind.i64.wrap ((IntKind.i64.wrap ((263 : Int) * (Int.tmod (IntKind.i64.wrap ((IntKind.i64.wrap ((263 : Int) * (Int.tmod (IntKind.i64.wrap ((IntKind.i64.wrap ((263 : Int) * (Int.tmod (IntKind.i64.wrap ((IntKind.i64.wrap ((263 : Int) * (Int.tmod (IntKind.i64.wrap ((115720 : Int) + (IntKind.i64.wrap (Go.IntKind.wrap Go.IntKind.u8 t0)))) (16777199 : Int)))) + (IntKind.i64.wrap (Go.IntKind.wrap Go.IntKind.u8 (Int.fdiv t1 (256 : Int)))))) (16777199 : Int)))) + (IntKind.i64.wrap (Go.IntKind.wrap Go.IntKind.u8 (Int.fdiv t1 (1 : Int)))))) (16777199 : Int)))) + (IntKind.i64.wrap (Go.IntKind.wrap Go.IntKind.u8 (Int.fdiv t2 (256 : Int)))))) (16777199 : Int)))) + (IntKind.i64.wrap (Go.IntKind.wrap Go.IntKind.u8 (Int.fdiv t2 (1 : Int)))))) (16777199 : Int)))) + (IntKind.i64.wrap (Go.IntKind.wrap Go.IntKind.u8 (Int.fdiv t3 (256 : Int)))))) (16777199 : Int)))) + (IntKind.i64.wrap (Go.IntKind.wrap Go.IntKind.u8 (Int.fdiv t3 (1 : Int)))))) (16777199 : Int)))) + (IntKind.i64.wrap (Go.IntKind.wrap Go.IntKind.u8 (Int.fdiv t4 (256 : Int)))))) (16777199 : Int)))) + (IntKind.i64.wrap (Go.IntKind.wrap Go.IntKind.u8 (Int.fdiv t4 (1 : Int)))))) (16777199 : Int)))) + (IntKind.i64.wrap (Go.IntKind.wrap Go.IntKind.u8 (Int.fdiv t5 (256 : Int)))))) (16777199 : Int)))) + (IntKind.i64.wrap (Go.IntKind.wrap Go.IntKind.u8 (Int.fdiv t5 (1 : Int)))))) (16777199 : Int)) (1 : Int)))], .int .i64 (0 : Int)]
def encode_r0 (t0 t1 t2 t3 t4 t5 : Int) : Prop := ((((((((((((((((((((((((((((((((((((((((((((((((((((((((True ∧ (True)) ∧ (encode_c0 t0 t1 t2 t3 t4 t5 = false)) ∧ ((true = true))) ∧ ((true = true))) ∧ ((false = false))) ∧ ((true = true))) ∧ (((0 : Int) = (Int.ofNat 0)))) ∧ ((true = true))) ∧ ((true = true))) ∧ ((false = false))) ∧ ((true = true))) ∧ (((1 : Int) = (Int.ofNat 1)))) ∧ ((true = true))) ∧ ((true = true))) ∧ ((false = false))) ∧ ((true = true))) ∧ (((2 : Int) = (Int.ofNat 2)))) ∧ ((true = true))) ∧ ((true = true))) ∧ ((false = false))) ∧ ((true = true))) ∧ (((3 : Int) = (Int.ofNat 3)))) ∧ ((true = true))) ∧ ((true = true))) ∧ ((false = false))) ∧ ((false = false))) ∧ ((true = true))) ∧ (((0 : Int) = (Int.ofNat 0)))) ∧ ((true = true))) ∧ (((1 : Int) = (Int.ofNat 1)))) ∧ ((true = true))) ∧ (((2 : Int) = (Int.ofNat 2)))) ∧ ((true = true))) ∧ (((3 : Int) = (Int.ofNat 3)))) ∧ ((true = true))) ∧ (((4 : Int) = (Int.ofNat 4)))) ∧ ((true = true))) ∧ (((5 : Int) = (Int.ofNat 5)))) ∧ ((true = true))) ∧ (((6 : Int) = (Int.ofNat 6)))) ∧ ((true = true))) ∧ (((7 : Int) = (Int.ofNat 7)))) ∧ ((true = true))) ∧ (((8 : Int) = (Int.ofNat 8)))) ∧ ((true = true))) ∧ (((9 : Int) = (Int.ofNat 9)))) ∧ ((true = true))) ∧ (((10 : Int) = (Int.ofNat 10)))) ∧ ((true = true))) ∧ (((11 : Int) = (Int.ofNat 11)))) ∧ ((false = false))) ∧ ((true = true))) ∧ ((true = true))) ∧ ((true = true))) ∧ ((true = true))) ∧ ((false = false)))
theorem encode_o0 (t0 t1 t2 t3 t4 t5 : Int) : obOf (encode_e0 t0 t1 t2 t3 t4 t5) = encode_r0 t0 t1 t2 t3 t4 t5 := by kernel_rfl
theorem encode_v0 (t0 t1 t2 t3 t4 t5 : Int) : resOf (encode_e0 t0 t1 t2 t3 t4 t5) = encode_w0 t0 t1 t2 t3 t4 t5 := by kernel_rfl
theorem encode_k0 (t0 t1 t2 t3 t4 t5 : Int) : cleanOf Tryz.prog.globals.size (encode_e0 t0 t1 t2 t3 t4 t5) = true := by kernel_rfl
theorem encode_q0 (t0 t1 t2 t3 t4 t5 : Int) : encode_e0 t0 t1 t2 t3 t4 t5 = evFS Tryz.prog x_encode 1000 4 #[.agg #[.int .i64 t0, .int .i64 t1, .int .i64 t2, .int .i64 t3, .int .i64 t4, .int .i64 t5]] (noTabs 6) ⟨[0, 1, 1, 0, 1, 0, 1, 1, 0, 1, 1, 1, 1, 0, 1, 2, 1, 1, 0, 1, 3, 1, 1, 0, 0, 1, 0, 1, 1, 1, 2, 1, 3, 1, 4, 1, 5, 1, 6, 1, 7, 1, 8, 1, 9, 1, 10, 1, 11, 0, 1, 1, 1, 1, 0], True⟩ := by
  delta encode_e0
  exact Eq.refl _
theorem encode_p0 (t0 t1 t2 t3 t4 t5 : Int) (h : encode_r0 t0 t1 t2 t3 t4 t5) (w : World) : Calls Tryz.prog 4 #[.agg #[.int .i64 t0, .int .i64 t1, .int .i64 t2, .int .i64 t3, .int .i64 t4, .int .i64 t5]] w fun en w' => en = .returned (encode_w0 t0 t1 t2 t3 t4 t5) ∧ Below w.heap.size w w' := by
  have hv := encode_v0 t0 t1 t2 t3 t4 t5
  have hc := encode_k0 t0 t1 t2 t3 t4 t5
  have he := encode_q0 t0 t1 t2 t3 t4 t5
  have ho := encode_o0 t0 t1 t2 t3 t4 t5
  generalize encode_e0 t0 t1 t2 t3 t4 t5 = r at *
  exact calls_way he gfol encode_X hv rfl (encode_args t0 t1 t2 t3 t4 t5) hc ho h (bl w)
def encode_w1 (t0 t1 t2 t3 t4 t5 : Int) : Value := .tuple #[.agg #[.int .u8 (0 : Int), .int .u8 (0 : Int), .int .u8 (0 : Int), .int .u8 (0 : Int), .int .u8 (0 : Int), .int .u8 (0 : Int), .int .u8 (0 : Int), .int .u8 (0 : Int), .int .u8 (0 : Int), .int .u8 (0 : Int), .int .u8 (0 : Int), .int .u8 (0 : Int), .int .u8 (0 : Int), .int .u8 (0 : Int), .int .u8 (0 : Int), .int .u8 (0 : Int)], .int .i64 (th6 (Pl.cr t0 (0 : Int) (255 : Int)) (Pl.cr t1 (0 : Int) (65535 : Int)) (Pl.cr t2 (-32768 : Int) (32767 : Int)) (Pl.cr t3 (-32768 : Int) (32767 : Int)) (Pl.cr t4 (-32768 : Int) (32767 : Int)) (Pl.cr t5 (-32768 : Int) (32767 : Int)))]
def encode_r1 (t0 t1 t2 t3 t4 t5 : Int) : Prop := ((True ∧ (True)) ∧ (encode_c0 t0 t1 t2 t3 t4 t5 = true))
theorem encode_o1 (t0 t1 t2 t3 t4 t5 : Int) : obOf (encode_e1 t0 t1 t2 t3 t4 t5) = encode_r1 t0 t1 t2 t3 t4 t5 := by kernel_rfl
theorem encode_v1 (t0 t1 t2 t3 t4 t5 : Int) : resOf (encode_e1 t0 t1 t2 t3 t4 t5) = encode_w1 t0 t1 t2 t3 t4 t5 := by kernel_rfl
theorem encode_k1 (t0 t1 t2 t3 t4 t5 : Int) : cleanOf Tryz.prog.globals.size (encode_e1 t0 t1 t2 t3 t4 t5) = true := by kernel_rfl
theorem encode_q1 (t0 t1 t2 t3 t4 t5 : Int) : encode_e1 t0 t1 t2 t3 t4 t5 = evFS Tryz.prog x_encode 1000 4 #[.agg #[.int .i64 t0, .int .i64 t1, .int .i64 t2, .int .i64 t3, .int .i64 t4, .int .i64 t5]] (noTabs 6) ⟨[1], True⟩ := by
  delta encode_e1
  exact Eq.refl _
theorem encode_p1 (t0 t1 t2 t3 t4 t5 : Int) (h : encode_r1 t0 t1 t2 t3 t4 t5) (w : World) : Calls Tryz.prog 4 #[.agg #[.int .i64 t0, .int .i64 t1, .int .i64 t2, .int .i64 t3, .int .i64 t4, .int .i64 t5]] w fun en w' => en = .returned (encode_w1 t0 t1 t2 t3 t4 t5) ∧ Below w.heap.size w w' := by
  have hv := encode_v1 t0 t1 t2 t3 t4 t5
  have hc := encode_k1 t0 t1 t2 t3 t4 t5
  have he := encode_q1 t0 t1 t2 t3 t4 t5
  have ho := encode_o1 t0 t1 t2 t3 t4 t5
  generalize encode_e1 t0 t1 t2 t3 t4 t5 = r at *
  exact calls_way he gfol encode_X hv rfl (encode_args t0 t1 t2 t3 t4 t5) hc ho h (bl w)
theorem encode_any (t0 t1 t2 t3 t4 t5 : Int) (hpre : True) (w : World) : Calls Tryz.prog 4 #[.agg #[.int .i64 t0, .int .i64 t1, .int .i64 t2, .int .i64 t3, .int .i64 t4, .int .i64 t5]] w fun en w' => en = .returned (encode_val t0 t1 t2 t3 t4 t5) ∧ Below w.heap.size w w' := by
  rcases Bool.eq_false_or_eq_true (encode_c0 t0 t1 t2 t3 t4 t5) with h0 | h0
  ·
    unfold encode_c0 at h0
    have hp := encode_p1 t0 t1 t2 t3 t4 t5 ⟨⟨trivial, encode_g0⟩, h0⟩ w
    have hv : encode_w1 t0 t1 t2 t3 t4 t5 = (encode_val t0 t1 t2 t3 t4 t5) := by
      clear hp
      unfold encode_w1 encode_val
      generalize hE : (th6 (Pl.cr t0 0 255) (Pl.cr t1 0 65535) (Pl.cr t2 (-32768) 32767) (Pl.cr t3 (-32768) 32767) (Pl.cr t4 (-32768) 32767) (Pl.cr t5 (-32768) 32767)) = E at *
      first | (have e0 : E = 0 := (by simpa using h0); subst e0; simp only [cz, ↓reduceIte]; (try simp only [w8, w16, f1, f8, f16, f24, m1, m2]); simp (disch := first | exact inS_st | exact inS_csT | exact inB_mod | (unfold inS; omega)) only [rs2, rs, w32, csT_eq]) | (have e0 : E ≠ 0 := (by simpa using h0); simp only [cz, if_neg e0])
    exact hv ▸ hp
  ·
    unfold encode_c0 at h0
    have hp := encode_p0 t0 t1 t2 t3 t4 t5 ⟨⟨⟨⟨⟨⟨⟨⟨⟨⟨⟨⟨⟨⟨⟨⟨⟨⟨⟨⟨⟨⟨⟨⟨⟨⟨⟨⟨⟨⟨⟨⟨⟨⟨⟨⟨⟨⟨⟨⟨⟨⟨⟨⟨⟨⟨⟨⟨⟨⟨⟨⟨⟨⟨⟨⟨trivial, encode_g0⟩, h0⟩, encode_g2⟩, encode_g2⟩, encode_g3⟩, encode_g2⟩, encode_g4⟩, encode_g2⟩, encode_g2⟩, encode_g3⟩, encode_g2⟩, encode_g5⟩, encode_g2⟩, encode_g2⟩, encode_g3⟩, encode_g2⟩, encode_g6⟩, encode_g2⟩, encode_g2⟩, encode_g3⟩, encode_g2⟩, encode_g7⟩, encode_g2⟩, encode_g2⟩, encode_g3⟩, encode_g3⟩, encode_g2⟩, encode_g4⟩, encode_g2⟩, encode_g5⟩, encode_g2⟩, encode_g6⟩, encode_g2⟩, encode_g7⟩, encode_g2⟩, encode_g8⟩, encode_g2⟩, encode_g9⟩, encode_g2⟩, encode_g10⟩, encode_g2⟩, encode_g11⟩, encode_g2⟩, encode_g12⟩, encode_g2⟩, encode_g13⟩, encode_g2⟩, encode_g14⟩, encode_g2⟩, encode_g15⟩, encode_g3⟩, encode_g2⟩, encode_g2⟩, encode_g2⟩, encode_g2⟩, encode_g3⟩ w
    have hv : encode_w0 t0 t1 t2 t3 t4 t5 = (encode_val t0 t1 t2 t3 t4 t5) := by
      clear hp
      unfold encode_w0 encode_val
      generalize hE : (th6 (Pl.cr t0 0 255) (Pl.cr t1 0 65535) (Pl.cr t2 (-32768) 32767) (Pl.cr t3 (-32768) 32767) (Pl.cr t4 (-32768) 32767) (Pl.cr t5 (-32768) 32767)) = E at *
      first | (have e0 : E = 0 := (by simpa using h0); subst e0; simp only [cz, ↓reduceIte]; (try simp only [w8, w16, f1, f8, f16, f24, m1, m2]); simp (disch := first | exact inS_st | exact inS_csT | exact inB_mod | (unfold inS; omega)) only [rs2, rs, w32, csT_eq]) | (have e0 : E ≠ 0 := (by simpa using h0); simp only [cz, if_neg e0])
    exact hv ▸ hp
theorem k_encode : ConOk Tryz.prog c_encode := fun ns hl => by
  have hl0 : ns.length = 6 := hl
  clear hl
  obtain ⟨t0, ns0, rfl, hl1⟩ := len_cons hl0
  obtain ⟨t1, ns1, rfl, hl2⟩ := len_cons hl1
  obtain ⟨t2, ns2, rfl, hl3⟩ := len_cons hl2
  obtain ⟨t3, ns3, rfl, hl4⟩ := len_cons hl3
  obtain ⟨t4, ns4, rfl, hl5⟩ := len_cons hl4
  obtain ⟨t5, ns5, rfl, hl6⟩ := len_cons hl5
  obtain rfl := len_nil hl6
  exact ⟨rfl, fun h w => encode_any t0 t1 t2 t3 t4 t5 h w⟩
end Go.Proofs.YtgapibngfpafpaaGreatDoor
end
section
set_option linter.all false
set_option maxRecDepth 1000000
set_option maxHeartbeats 2000000
open Go.RowKit
namespace Go.Proofs.YtgapibngfpafpaaGreatDoor
open Mini

def decode_val (y0 y1 y2 y3 y4 y5 y6 y7 y8 y9 y10 y11 y12 y13 y14 y15 : Int) : Value := .tuple #[.agg #[.int .i64 (cz (fe y0 (csY y0 y1 y2 y3 y4 y5 y6 y7 y8 y9 y10 y11) (((y12 * 256 + y13) * 256 + y14) * 256 + y15)) (y1)), .int .i64 (cz (fe y0 (csY y0 y1 y2 y3 y4 y5 y6 y7 y8 y9 y10 y11) (((y12 * 256 + y13) * 256 + y14) * 256 + y15)) (y2 * 256 + y3)), .int .i64 (cz (fe y0 (csY y0 y1 y2 y3 y4 y5 y6 y7 y8 y9 y10 y11) (((y12 * 256 + y13) * 256 + y14) * 256 + y15)) (sg (y4 * 256 + y5))), .int .i64 (cz (fe y0 (csY y0 y1 y2 y3 y4 y5 y6 y7 y8 y9 y10 y11) (((y12 * 256 + y13) * 256 + y14) * 256 + y15)) (sg (y6 * 256 + y7))), .int .i64 (cz (fe y0 (csY y0 y1 y2 y3 y4 y5 y6 y7 y8 y9 y10 y11) (((y12 * 256 + y13) * 256 + y14) * 256 + y15)) (sg (y8 * 256 + y9))), .int .i64 (cz (fe y0 (csY y0 y1 y2 y3 y4 y5 y6 y7 y8 y9 y10 y11) (((y12 * 256 + y13) * 256 + y14) * 256 + y15)) (sg (y10 * 256 + y11)))], .int .i64 (fe y0 (csY y0 y1 y2 y3 y4 y5 y6 y7 y8 y9 y10 y11) (((y12 * 256 + y13) * 256 + y14) * 256 + y15))]
theorem decode_X : FOkS Tryz.prog x_decode := noXS_ok
theorem decode_args (y0 y1 y2 y3 y4 y5 y6 y7 y8 y9 y10 y11 y12 y13 y14 y15 : Int) : (#[.agg #[.int .u8 y0, .int .u8 y1, .int .u8 y2, .int .u8 y3, .int .u8 y4, .int .u8 y5, .int .u8 y6, .int .u8 y7, .int .u8 y8, .int .u8 y9, .int .u8 y10, .int .u8 y11, .int .u8 y12, .int .u8 y13, .int .u8 y14, .int .u8 y15]] : Array Value).toList.all (ground 8) = true := by kernel_rfl
theorem decode_g0 : ((0 : Int) = (Int.ofNat 0)) := by first | rfl | trivial | decide | omega
def decode_c0 (y0 y1 y2 y3 y4 y5 y6 y7 y8 y9 y10 y11 y12 y13 y14 y15 : Int) : Bool := (y0 != (177 : Int))
theorem decode_g2 : (true = true) := by first | rfl | trivial | decide | omega
theorem decode_g3 : ((1 : Int) = (Int.ofNat 1)) := by first | rfl | trivial | decide | omega
theorem decode_g4 : ((2 : Int) = (Int.ofNat 2)) := by first | rfl | trivial | decide | omega
theorem decode_g5 : ((3 : Int) = (Int.ofNat 3)) := by first | rfl | trivial | decide | omega
theorem decode_g6 : (false = false) := by first | rfl | trivial | decide | omega
theorem decode_g7 : ((4 : Int) = (Int.ofNat 4)) := by first | rfl | trivial | decide | omega
theorem decode_g8 : ((5 : Int) = (Int.ofNat 5)) := by first | rfl | trivial | decide | omega
theorem decode_g9 : ((6 : Int) = (Int.ofNat 6)) := by first | rfl | trivial | decide | omega
theorem decode_g10 : ((7 : Int) = (Int.ofNat 7)) := by first | rfl | trivial | decide | omega
theorem decode_g11 : ((8 : Int) = (Int.ofNat 8)) := by first | rfl | trivial | decide | omega
theorem decode_g12 : ((9 : Int) = (Int.ofNat 9)) := by first | rfl | trivial | decide | omega
theorem decode_g13 : ((10 : Int) = (Int.ofNat 10)) := by first | rfl | trivial | decide | omega
theorem decode_g14 : ((11 : Int) = (Int.ofNat 11)) := by first | rfl | trivial | decide | omega
def decode_c1 (y0 y1 y2 y3 y4 y5 y6 y7 y8 y9 y10 y11 y12 y13 y14 y15 : Int) : Bool := (Bool.not ((IntKind.i64.wrap (((BitVec.toNat ((BitVec.ofInt (64 : Nat) (IntKind.i64.wrap ((IntKind.i64.wrap (((BitVec.toNat ((BitVec.ofInt (64 : Nat) (IntKind.i64.wrap ((IntKind.i64.wrap (((BitVec.toNat ((BitVec.ofInt (64 : Nat) (IntKind.i64.wrap ((IntKind.i64.wrap (((BitVec.toNat ((BitVec.ofInt (64 : Nat) (0 : Int)) ||| (BitVec.ofInt (64 : Nat) (IntKind.i64.wrap y12)))) : Nat) : Int)) * (256 : Int)))) ||| (BitVec.ofInt (64 : Nat) (IntKind.i64.wrap y13)))) : Nat) : Int)) * (256 : Int)))) ||| (BitVec.ofInt (64 : Nat) (IntKind.i64.wrap y14)))) : Nat) : Int)) * (256 : Int)))) ||| (BitVec.ofInt (64 : Nat) (IntKind.i64.wrap y15)))) : Nat) : Int)) == (Int.tmod (IntKind.i64.wrap ((IntKind.i64.wrap ((263 : Int) * (Int.tmod (IntKind.i64.wrap ((IntKind.i64.wrap ((263 : Int) * (Int.tmod (IntKind.i64.wrap ((IntKind.i64.wrap ((263 : Int) * (Int.tmod (IntKind.i64.wrap ((IntKind.i64.wrap ((263 : Int) * (Int.tmod (IntKind.i64.wrap ((IntKind.i64.wrap ((263 : Int) * (Int.tmod (IntKind.i64.wrap ((IntKind.i64.wrap ((263 : Int) * (Int.tmod (IntKind.i64.wrap ((IntKind.i64.wrap ((263 : Int) * (Int.tmod (IntKind.i64.wrap ((IntKind.i64.wrap ((263 : Int) * (Int.tmod (IntKind.i64.wrap ((IntKind.i64.wrap ((263 : Int) * (Int.tmod (IntKind.i64.wrap ((IntKind.i64.wrap ((263 : Int) * (Int.tmod (IntKind.i64.wrap ((IntKind.i64.wrap ((263 : Int) * (Int.tmod (IntKind.i64.wrap ((263 : Int) + (IntKind.i64.wrap y0))) (16777199 : Int)))) + (IntKind.i64.wrap y1))) (16777199 : Int)))) + (IntKind.i64.wrap y2))) (16777199 : Int)))) + (IntKind.i64.wrap y3))) (16777199 : Int)))) + (IntKind.i64.wrap y4))) (16777199 : Int)))) + (IntKind.i64.wrap y5))) (16777199 : Int)))) + (IntKind.i64.wrap y6))) (16777199 : Int)))) + (IntKind.i64.wrap y7))) (16777199 : Int)))) + (IntKind.i64.wrap y8))) (16777199 : Int)))) + (IntKind.i64.wrap y9))) (16777199 : Int)))) + (IntKind.i64.wrap y10))) (16777199 : Int)))) + (IntKind.i64.wrap y11))) (16777199 : Int))))
def decode_w0 (y0 y1 y2 y3 y4 y5 y6 y7 y8 y9 y10 y11 y12 y13 y14 y15 : Int) : Value := .tuple #[.agg #[.int .i64 (IntKind.i64.wrap y1), .int .i64 (IntKind.i64.wrap (((BitVec.toNat ((BitVec.ofInt (64 : Nat) (IntKind.i64.wrap ((IntKind.i64.wrap (((BitVec.toNat ((BitVec.ofInt (64 : Nat) (0 : Int)) ||| (BitVec.ofInt (64 : Nat) (IntKind.i64.wrap y2)))) : Nat) : Int)) * (256 : Int)))) ||| (BitVec.ofInt (64 : Nat) (IntKind.i64.wrap y3)))) : Nat) : Int)), .int .i64 (IntKind.i64.wrap (Go.IntKind.wrap Go.IntKind.i16 (IntKind.i64.wrap (((BitVec.toNat ((BitVec.ofInt (64 : Nat) (IntKind.i64.wrap ((IntKind.i64.wrap (((BitVec.toNat ((BitVec.ofInt (64 : Nat) (0 : Int)) ||| (BitVec.ofInt (64 : Nat) (IntKind.i64.wrap y4)))) : Nat) : Int)) * (256 : Int)))) ||| (BitVec.ofInt (64 : Nat) (IntKind.i64.wrap y5)))) : Nat) : Int)))), .int .i64 (IntKind.i64.wrap (Go.IntKind.wrap Go.IntKind.i16 (IntKind.i64.wrap (((BitVec.toNat ((BitVec.ofInt (64 : Nat) (IntKind.i64.wrap ((IntKind.i64.wrap (((BitVec.toNat ((BitVec.ofInt (64 : Nat) (0 : Int)) ||| (BitVec.ofInt (64 : Nat) (IntKind.i64.wrap y6)))) : Nat) : Int)) * (256 : Int)))) ||| (BitVec.ofInt (64 : Nat) (IntKind.i64.wrap y7)))) : Nat) : Int)))), .int .i64 (IntKind.i64.wrap (Go.IntKind.wrap Go.IntKind.i16 (IntKind.i64.wrap (((BitVec.toNat ((BitVec.ofInt (64 : Nat) (IntKind.i64.wrap ((IntKind.i64.wrap (((BitVec.toNat ((BitVec.ofInt (64 : Nat) (0 : Int)) ||| (BitVec.ofInt (64 : Nat) (IntKind.i64.wrap y8)))) : Nat) : Int)) * (256 : Int)))) ||| (BitVec.ofInt (64 : Nat) (IntKind.i64.wrap y9)))) : Nat) : Int)))), .int .i64 (IntKind.i64.wrap (Go.IntKind.wrap Go.IntKind.i16 (IntKind.i64.wrap (((BitVec.toNat ((BitVec.ofInt (64 : Nat) (IntKind.i64.wrap ((IntKind.i64.wrap (((BitVec.toNat ((BitVec.ofInt (64 : Nat) (0 : Int)) ||| (BitVec.ofInt (64 : Nat) (IntKind.i64.wrap y10)))) : Nat) : Int)) * (256 : Int)))) ||| (BitVec.ofInt (64 : Nat) (IntKind.i64.wrap y11)))) : Nat) : Int))))], .int .i64 (0 : Int)]
def decode_r0 (y0 y1 y2 y3 y4 y5 y6 y7 y8 y9 y10 y11 y12 y13 y14 y15 : Int) : Prop := ((((((((((((((((((((((((((((((((((((((((((((((((((((((((((((((((((((((((True ∧ (((0 : Int) = (Int.ofNat 0)))) ∧ (decode_c0 y0 y1 y2 y3 y4 y5 y6 y7 y8 y9 y10 y11 y12 y13 y14 y15 = false)) ∧ ((true = true))) ∧ (((0 : Int) = (Int.ofNat 0)))) ∧ ((true = true))) ∧ (((1 : Int) = (Int.ofNat 1)))) ∧ ((true = true))) ∧ (((2 : Int) = (Int.ofNat 2)))) ∧ ((true = true))) ∧ (((3 : Int) = (Int.ofNat 3)))) ∧ ((false = false))) ∧ ((true = true))) ∧ (((0 : Int) = (Int.ofNat 0)))) ∧ ((true = true))) ∧ (((1 : Int) = (Int.ofNat 1)))) ∧ ((true = true))) ∧ (((2 : Int) = (Int.ofNat 2)))) ∧ ((true = true))) ∧ (((3 : Int) = (Int.ofNat 3)))) ∧ ((true = true))) ∧ (((4 : Int) = (Int.ofNat 4)))) ∧ ((true = true))) ∧ (((5 : Int) = (Int.ofNat 5)))) ∧ ((true = true))) ∧ (((6 : Int) = (Int.ofNat 6)))) ∧ ((true = true))) ∧ (((7 : Int) = (Int.ofNat 7)))) ∧ ((true = true))) ∧ (((8 : Int) = (Int.ofNat 8)))) ∧ ((true = true))) ∧ (((9 : Int) = (Int.ofNat 9)))) ∧ ((true = true))) ∧ (((10 : Int) = (Int.ofNat 10)))) ∧ ((true = true))) ∧ (((11 : Int) = (Int.ofNat 11)))) ∧ ((false = false))) ∧ (decode_c1 y0 y1 y2 y3 y4 y5 y6 y7 y8 y9 y10 y11 y12 y13 y14 y15 = false)) ∧ (((1 : Int) = (Int.ofNat 1)))) ∧ ((true = true))) ∧ (((0 : Int) = (Int.ofNat 0)))) ∧ ((true = true))) ∧ (((1 : Int) = (Int.ofNat 1)))) ∧ ((false = false))) ∧ ((true = true))) ∧ ((true = true))) ∧ (((0 : Int) = (Int.ofNat 0)))) ∧ ((true = true))) ∧ (((1 : Int) = (Int.ofNat 1)))) ∧ ((false = false))) ∧ (((0 : Int) = (Int.ofNat 0)))) ∧ ((true = true))) ∧ ((true = true))) ∧ (((0 : Int) = (Int.ofNat 0)))) ∧ ((true = true))) ∧ (((1 : Int) = (Int.ofNat 1)))) ∧ ((false = false))) ∧ (((1 : Int) = (Int.ofNat 1)))) ∧ ((true = true))) ∧ ((true = true))) ∧ (((0 : Int) = (Int.ofNat 0)))) ∧ ((true = true))) ∧ (((1 : Int) = (Int.ofNat 1)))) ∧ ((false = false))) ∧ (((2 : Int) = (Int.ofNat 2)))) ∧ ((true = true))) ∧ ((true = true))) ∧ (((0 : Int) = (Int.ofNat 0)))) ∧ ((true = true))) ∧ (((1 : Int) = (Int.ofNat 1)))) ∧ ((false = false))) ∧ (((3 : Int) = (Int.ofNat 3)))) ∧ ((false = false)))
theorem decode_o0 (y0 y1 y2 y3 y4 y5 y6 y7 y8 y9 y10 y11 y12 y13 y14 y15 : Int) : obOf (decode_e0 y0 y1 y2 y3 y4 y5 y6 y7 y8 y9 y10 y11 y12 y13 y14 y15) = decode_r0 y0 y1 y2 y3 y4 y5 y6 y7 y8 y9 y10 y11 y12 y13 y14 y15 := by kernel_rfl
theorem decode_v0 (y0 y1 y2 y3 y4 y5 y6 y7 y8 y9 y10 y11 y12 y13 y14 y15 : Int) : resOf (decode_e0 y0 y1 y2 y3 y4 y5 y6 y7 y8 y9 y10 y11 y12 y13 y14 y15) = decode_w0 y0 y1 y2 y3 y4 y5 y6 y7 y8 y9 y10 y11 y12 y13 y14 y15 := by kernel_rfl
theorem decode_k0 (y0 y1 y2 y3 y4 y5 y6 y7 y8 y9 y10 y11 y12 y13 y14 y15 : Int) : cleanOf Tryz.prog.globals.size (decode_e0 y0 y1 y2 y3 y4 y5 y6 y7 y8 y9 y10 y11 y12 y13 y14 y15) = true := by kernel_rfl
theorem decode_q0 (y0 y1 y2 y3 y4 y5 y6 y7 y8 y9 y10 y11 y12 y13 y14 y15 : Int) : decode_e0 y0 y1 y2 y3 y4 y5 y6 y7 y8 y9 y10 y11 y12 y13 y14 y15 = evFS Tryz.prog x_decode 1000 5 #[.agg #[.int .u8 y0, .int .u8 y1, .int .u8 y2, .int .u8 y3, .int .u8 y4, .int .u8 y5, .int .u8 y6, .int .u8 y7, .int .u8 y8, .int .u8 y9, .int .u8 y10, .int .u8 y11, .int .u8 y12, .int .u8 y13, .int .u8 y14, .int .u8 y15]] (noTabs 6) ⟨[0, 0, 1, 0, 1, 1, 1, 2, 1, 3, 0, 1, 0, 1, 1, 1, 2, 1, 3, 1, 4, 1, 5, 1, 6, 1, 7, 1, 8, 1, 9, 1, 10, 1, 11, 0, 0, 1, 1, 0, 1, 1, 0, 1, 1, 0, 1, 1, 0, 0, 1, 1, 0, 1, 1, 0, 1, 1, 1, 0, 1, 1, 0, 2, 1, 1, 0, 1, 1, 0, 3, 0], True⟩ := by
  delta decode_e0
  exact Eq.refl _
theorem decode_p0 (y0 y1 y2 y3 y4 y5 y6 y7 y8 y9 y10 y11 y12 y13 y14 y15 : Int) (h : decode_r0 y0 y1 y2 y3 y4 y5 y6 y7 y8 y9 y10 y11 y12 y13 y14 y15) (w : World) : Calls Tryz.prog 5 #[.agg #[.int .u8 y0, .int .u8 y1, .int .u8 y2, .int .u8 y3, .int .u8 y4, .int .u8 y5, .int .u8 y6, .int .u8 y7, .int .u8 y8, .int .u8 y9, .int .u8 y10, .int .u8 y11, .int .u8 y12, .int .u8 y13, .int .u8 y14, .int .u8 y15]] w fun en w' => en = .returned (decode_w0 y0 y1 y2 y3 y4 y5 y6 y7 y8 y9 y10 y11 y12 y13 y14 y15) ∧ Below w.heap.size w w' := by
  have hv := decode_v0 y0 y1 y2 y3 y4 y5 y6 y7 y8 y9 y10 y11 y12 y13 y14 y15
  have hc := decode_k0 y0 y1 y2 y3 y4 y5 y6 y7 y8 y9 y10 y11 y12 y13 y14 y15
  have he := decode_q0 y0 y1 y2 y3 y4 y5 y6 y7 y8 y9 y10 y11 y12 y13 y14 y15
  have ho := decode_o0 y0 y1 y2 y3 y4 y5 y6 y7 y8 y9 y10 y11 y12 y13 y14 y15
  generalize decode_e0 y0 y1 y2 y3 y4 y5 y6 y7 y8 y9 y10 y11 y12 y13 y14 y15 = r at *
  exact calls_way he gfol decode_X hv rfl (decode_args y0 y1 y2 y3 y4 y5 y6 y7 y8 y9 y10 y11 y12 y13 y14 y15) hc ho h (bl w)
def decode_w1 (y0 y1 y2 y3 y4 y5 y6 y7 y8 y9 y10 y11 y12 y13 y14 y15 : Int) : Value := .tuple #[.agg #[.int .i64 (0 : Int), .int .i64 (0 : Int), .int .i64 (0 : Int), .int .i64 (0 : Int), .int .i64 (0 : Int), .int .i64 (0 : Int)], .int .i64 (27 : Int)]
def decode_r1 (y0 y1 y2 y3 y4 y5 y6 y7 y8 y9 y10 y11 y12 y13 y14 y15 : Int) : Prop := (((((((((((((((((((((((((((((((((((((True ∧ (((0 : Int) = (Int.ofNat 0)))) ∧ (decode_c0 y0 y1 y2 y3 y4 y5 y6 y7 y8 y9 y10 y11 y12 y13 y14 y15 = false)) ∧ ((true = true))) ∧ (((0 : Int) = (Int.ofNat 0)))) ∧ ((true = true))) ∧ (((1 : Int) = (Int.ofNat 1)))) ∧ ((true = true))) ∧ (((2 : Int) = (Int.ofNat 2)))) ∧ ((true = true))) ∧ (((3 : Int) = (Int.ofNat 3)))) ∧ ((false = false))) ∧ ((true = true))) ∧ (((0 : Int) = (Int.ofNat 0)))) ∧ ((true = true))) ∧ (((1 : Int) = (Int.ofNat 1)))) ∧ ((true = true))) ∧ (((2 : Int) = (Int.ofNat 2)))) ∧ ((true = true))) ∧ (((3 : Int) = (Int.ofNat 3)))) ∧ ((true = true))) ∧ (((4 : Int) = (Int.ofNat 4)))) ∧ ((true = true))) ∧ (((5 : Int) = (Int.ofNat 5)))) ∧ ((true = true))) ∧ (((6 : Int) = (Int.ofNat 6)))) ∧ ((true = true))) ∧ (((7 : Int) = (Int.ofNat 7)))) ∧ ((true = true))) ∧ (((8 : Int) = (Int.ofNat 8)))) ∧ ((true = true))) ∧ (((9 : Int) = (Int.ofNat 9)))) ∧ ((true = true))) ∧ (((10 : Int) = (Int.ofNat 10)))) ∧ ((true = true))) ∧ (((11 : Int) = (Int.ofNat 11)))) ∧ ((false = false))) ∧ (decode_c1 y0 y1 y2 y3 y4 y5 y6 y7 y8 y9 y10 y11 y12 y13 y14 y15 = true))
theorem decode_o1 (y0 y1 y2 y3 y4 y5 y6 y7 y8 y9 y10 y11 y12 y13 y14 y15 : Int) : obOf (decode_e1 y0 y1 y2 y3 y4 y5 y6 y7 y8 y9 y10 y11 y12 y13 y14 y15) = decode_r1 y0 y1 y2 y3 y4 y5 y6 y7 y8 y9 y10 y11 y12 y13 y14 y15 := by kernel_rfl
theorem decode_v1 (y0 y1 y2 y3 y4 y5 y6 y7 y8 y9 y10 y11 y12 y13 y14 y15 : Int) : resOf (decode_e1 y0 y1 y2 y3 y4 y5 y6 y7 y8 y9 y10 y11 y12 y13 y14 y15) = decode_w1 y0 y1 y2 y3 y4 y5 y6 y7 y8 y9 y10 y11 y12 y13 y14 y15 := by kernel_rfl
theorem decode_k1 (y0 y1 y2 y3 y4 y5 y6 y7 y8 y9 y10 y11 y12 y13 y14 y15 : Int) : cleanOf Tryz.prog.globals.size (decode_e1 y0 y1 y2 y3 y4 y5 y6 y7 y8 y9 y10 y11 y12 y13 y14 y15) = true := by kernel_rfl
theorem decode_q1 (y0 y1 y2 y3 y4 y5 y6 y7 y8 y9 y10 y11 y12 y13 y14 y15 : Int) : decode_e1 y0 y1 y2 y3 y4 y5 y6 y7 y8 y9 y10 y11 y12 y13 y14 y15 = evFS Tryz.prog x_decode 1000 5 #[.agg #[.int .u8 y0, .int .u8 y1, .int .u8 y2, .int .u8 y3, .int .u8 y4, .int .u8 y5, .int .u8 y6, .int .u8 y7, .int .u8 y8, .int .u8 y9, .int .u8 y10, .int .u8 y11, .int .u8 y12, .int .u8 y13, .int .u8 y14, .int .u8 y15]] (noTabs 6) ⟨[0, 0, 1, 0, 1, 1, 1, 2, 1, 3, 0, 1, 0, 1, 1, 1, 2, 1, 3, 1, 4, 1, 5, 1, 6, 1, 7, 1, 8, 1, 9, 1, 10, 1, 11, 0, 1], True⟩ := by
  delta decode_e1
  exact Eq.refl _
theorem decode_p1 (y0 y1 y2 y3 y4 y5 y6 y7 y8 y9 y10 y11 y12 y13 y14 y15 : Int) (h : decode_r1 y0 y1 y2 y3 y4 y5 y6 y7 y8 y9 y10 y11 y12 y13 y14 y15) (w : World) : Calls Tryz.prog 5 #[.agg #[.int .u8 y0, .int .u8 y1, .int .u8 y2, .int .u8 y3, .int .u8 y4, .int .u8 y5, .int .u8 y6, .int .u8 y7, .int .u8 y8, .int .u8 y9, .int .u8 y10, .int .u8 y11, .int .u8 y12, .int .u8 y13, .int .u8 y14, .int .u8 y15]] w fun en w' => en = .returned (decode_w1 y0 y1 y2 y3 y4 y5 y6 y7 y8 y9 y10 y11 y12 y13 y14 y15) ∧ Below w.heap.size w w' := by
  have hv := decode_v1 y0 y1 y2 y3 y4 y5 y6 y7 y8 y9 y10 y11 y12 y13 y14 y15
  have hc := decode_k1 y0 y1 y2 y3 y4 y5 y6 y7 y8 y9 y10 y11 y12 y13 y14 y15
  have he := decode_q1 y0 y1 y2 y3 y4 y5 y6 y7 y8 y9 y10 y11 y12 y13 y14 y15
  have ho := decode_o1 y0 y1 y2 y3 y4 y5 y6 y7 y8 y9 y10 y11 y12 y13 y14 y15
  generalize decode_e1 y0 y1 y2 y3 y4 y5 y6 y7 y8 y9 y10 y11 y12 y13 y14 y15 = r at *
  exact calls_way he gfol decode_X hv rfl (decode_args y0 y1 y2 y3 y4 y5 y6 y7 y8 y9 y10 y11 y12 y13 y14 y15) hc ho h (bl w)
def decode_w2 (y0 y1 y2 y3 y4 y5 y6 y7 y8 y9 y10 y11 y12 y13 y14 y15 : Int) : Value := .tuple #[.agg #[.int .i64 (0 : Int), .int .i64 (0 : Int), .int .i64 (0 : Int), .int .i64 (0 : Int), .int .i64 (0 : Int), .int .i64 (0 : Int)], .int .i64 (1 : Int)]
def decode_r2 (y0 y1 y2 y3 y4 y5 y6 y7 y8 y9 y10 y11 y12 y13 y14 y15 : Int) : Prop := ((True ∧ (((0 : Int) = (Int.ofNat 0)))) ∧ (decode_c0 y0 y1 y2 y3 y4 y5 y6 y7 y8 y9 y10 y11 y12 y13 y14 y15 = true))
theorem decode_o2 (y0 y1 y2 y3 y4 y5 y6 y7 y8 y9 y10 y11 y12 y13 y14 y15 : Int) : obOf (decode_e2 y0 y1 y2 y3 y4 y5 y6 y7 y8 y9 y10 y11 y12 y13 y14 y15) = decode_r2 y0 y1 y2 y3 y4 y5 y6 y7 y8 y9 y10 y11 y12 y13 y14 y15 := by kernel_rfl
theorem decode_v2 (y0 y1 y2 y3 y4 y5 y6 y7 y8 y9 y10 y11 y12 y13 y14 y15 : Int) : resOf (decode_e2 y0 y1 y2 y3 y4 y5 y6 y7 y8 y9 y10 y11 y12 y13 y14 y15) = decode_w2 y0 y1 y2 y3 y4 y5 y6 y7 y8 y9 y10 y11 y12 y13 y14 y15 := by kernel_rfl
theorem decode_k2 (y0 y1 y2 y3 y4 y5 y6 y7 y8 y9 y10 y11 y12 y13 y14 y15 : Int) : cleanOf Tryz.prog.globals.size (decode_e2 y0 y1 y2 y3 y4 y5 y6 y7 y8 y9 y10 y11 y12 y13 y14 y15) = true := by kernel_rfl
theorem decode_q2 (y0 y1 y2 y3 y4 y5 y6 y7 y8 y9 y10 y11 y12 y13 y14 y15 : Int) : decode_e2 y0 y1 y2 y3 y4 y5 y6 y7 y8 y9 y10 y11 y12 y13 y14 y15 = evFS Tryz.prog x_decode 1000 5 #[.agg #[.int .u8 y0, .int .u8 y1, .int .u8 y2, .int .u8 y3, .int .u8 y4, .int .u8 y5, .int .u8 y6, .int .u8 y7, .int .u8 y8, .int .u8 y9, .int .u8 y10, .int .u8 y11, .int .u8 y12, .int .u8 y13, .int .u8 y14, .int .u8 y15]] (noTabs 6) ⟨[0, 1], True⟩ := by
  delta decode_e2
  exact Eq.refl _
theorem decode_p2 (y0 y1 y2 y3 y4 y5 y6 y7 y8 y9 y10 y11 y12 y13 y14 y15 : Int) (h : decode_r2 y0 y1 y2 y3 y4 y5 y6 y7 y8 y9 y10 y11 y12 y13 y14 y15) (w : World) : Calls Tryz.prog 5 #[.agg #[.int .u8 y0, .int .u8 y1, .int .u8 y2, .int .u8 y3, .int .u8 y4, .int .u8 y5, .int .u8 y6, .int .u8 y7, .int .u8 y8, .int .u8 y9, .int .u8 y10, .int .u8 y11, .int .u8 y12, .int .u8 y13, .int .u8 y14, .int .u8 y15]] w fun en w' => en = .returned (decode_w2 y0 y1 y2 y3 y4 y5 y6 y7 y8 y9 y10 y11 y12 y13 y14 y15) ∧ Below w.heap.size w w' := by
  have hv := decode_v2 y0 y1 y2 y3 y4 y5 y6 y7 y8 y9 y10 y11 y12 y13 y14 y15
  have hc := decode_k2 y0 y1 y2 y3 y4 y5 y6 y7 y8 y9 y10 y11 y12 y13 y14 y15
  have he := decode_q2 y0 y1 y2 y3 y4 y5 y6 y7 y8 y9 y10 y11 y12 y13 y14 y15
  have ho := decode_o2 y0 y1 y2 y3 y4 y5 y6 y7 y8 y9 y10 y11 y12 y13 y14 y15
  generalize decode_e2 y0 y1 y2 y3 y4 y5 y6 y7 y8 y9 y10 y11 y12 y13 y14 y15 = r at *
  exact calls_way he gfol decode_X hv rfl (decode_args y0 y1 y2 y3 y4 y5 y6 y7 y8 y9 y10 y11 y12 y13 y14 y15) hc ho h (bl w)
theorem decode_any (y0 y1 y2 y3 y4 y5 y6 y7 y8 y9 y10 y11 y12 y13 y14 y15 : Int) (hpre : (0 ≤ y0 ∧ y0 < 256) ∧ (0 ≤ y1 ∧ y1 < 256) ∧ (0 ≤ y2 ∧ y2 < 256) ∧ (0 ≤ y3 ∧ y3 < 256) ∧ (0 ≤ y4 ∧ y4 < 256) ∧ (0 ≤ y5 ∧ y5 < 256) ∧ (0 ≤ y6 ∧ y6 < 256) ∧ (0 ≤ y7 ∧ y7 < 256) ∧ (0 ≤ y8 ∧ y8 < 256) ∧ (0 ≤ y9 ∧ y9 < 256) ∧ (0 ≤ y10 ∧ y10 < 256) ∧ (0 ≤ y11 ∧ y11 < 256) ∧ (0 ≤ y12 ∧ y12 < 256) ∧ (0 ≤ y13 ∧ y13 < 256) ∧ (0 ≤ y14 ∧ y14 < 256) ∧ (0 ≤ y15 ∧ y15 < 256)) (w : World) : Calls Tryz.prog 5 #[.agg #[.int .u8 y0, .int .u8 y1, .int .u8 y2, .int .u8 y3, .int .u8 y4, .int .u8 y5, .int .u8 y6, .int .u8 y7, .int .u8 y8, .int .u8 y9, .int .u8 y10, .int .u8 y11, .int .u8 y12, .int .u8 y13, .int .u8 y14, .int .u8 y15]] w fun en w' => en = .returned (decode_val y0 y1 y2 y3 y4 y5 y6 y7 y8 y9 y10 y11 y12 y13 y14 y15) ∧ Below w.heap.size w w' := by
  obtain ⟨p0, p1, p2, p3, p4, p5, p6, p7, p8, p9, p10, p11, p12, p13, p14, p15⟩ := hpre
  rcases Bool.eq_false_or_eq_true (decode_c0 y0 y1 y2 y3 y4 y5 y6 y7 y8 y9 y10 y11 y12 y13 y14 y15) with h0 | h0
  ·
    unfold decode_c0 at h0
    have hp := decode_p2 y0 y1 y2 y3 y4 y5 y6 y7 y8 y9 y10 y11 y12 y13 y14 y15 ⟨⟨trivial, decode_g0⟩, h0⟩ w
    have hv : decode_w2 y0 y1 y2 y3 y4 y5 y6 y7 y8 y9 y10 y11 y12 y13 y14 y15 = (decode_val y0 y1 y2 y3 y4 y5 y6 y7 y8 y9 y10 y11 y12 y13 y14 y15) := by
      clear hp
      unfold decode_w2 decode_val
      simp only [bne_eq_false_iff_eq, bne_iff_ne, ne_eq, beq_iff_eq, beq_eq_false_iff_ne, Bool.not_eq_true', Bool.not_eq_false', Bool.not_eq_eq_eq_not, Bool.not_true, Bool.not_false] at *
      (try simp (disch := first | exact inS_st | (unfold inB; assumption) | omega) only [rs1, rs, or0, orA, csY_eq] at *)
      (try simp (disch := first | omega) only [wsg, sg_in, wi] at *)
      (try simp only [Int.zero_add, nrm2] at *)
      first | (have hF : (fe y0 (csY y0 y1 y2 y3 y4 y5 y6 y7 y8 y9 y10 y11) (((y12 * 256 + y13) * 256 + y14) * 256 + y15)) = 0 := (by unfold fe; rw [if_pos (by omega), if_pos (by omega)]); rw [hF]; simp only [cz, ↓reduceIte]) | (have hF : (fe y0 (csY y0 y1 y2 y3 y4 y5 y6 y7 y8 y9 y10 y11) (((y12 * 256 + y13) * 256 + y14) * 256 + y15)) = 27 := (by unfold fe; rw [if_pos (by omega), if_neg (by omega)]); rw [hF]; rfl) | (have hF : (fe y0 (csY y0 y1 y2 y3 y4 y5 y6 y7 y8 y9 y10 y11) (((y12 * 256 + y13) * 256 + y14) * 256 + y15)) = 1 := (by unfold fe; rw [if_neg (by omega)]); rw [hF]; rfl)
    exact hv ▸ hp
  ·
    unfold decode_c0 at h0
    rcases Bool.eq_false_or_eq_true (decode_c1 y0 y1 y2 y3 y4 y5 y6 y7 y8 y9 y10 y11 y12 y13 y14 y15) with h1 | h1
    ·
      unfold decode_c1 at h1
      have hp := decode_p1 y0 y1 y2 y3 y4 y5 y6 y7 y8 y9 y10 y11 y12 y13 y14 y15 ⟨⟨⟨⟨⟨⟨⟨⟨⟨⟨⟨⟨⟨⟨⟨⟨⟨⟨⟨⟨⟨⟨⟨⟨⟨⟨⟨⟨⟨⟨⟨⟨⟨⟨⟨⟨⟨trivial, decode_g0⟩, h0⟩, decode_g2⟩, decode_g0⟩, decode_g2⟩, decode_g3⟩, decode_g2⟩, decode_g4⟩, decode_g2⟩, decode_g5⟩, decode_g6⟩, decode_g2⟩, decode_g0⟩, decode_g2⟩, decode_g3⟩, decode_g2⟩, decode_g4⟩, decode_g2⟩, decode_g5⟩, decode_g2⟩, decode_g7⟩, decode_g2⟩, decode_g8⟩, decode_g2⟩, decode_g9⟩, decode_g2⟩, decode_g10⟩, decode_g2⟩, decode_g11⟩, decode_g2⟩, decode_g12⟩, decode_g2⟩, decode_g13⟩, decode_g2⟩, decode_g14⟩, decode_g6⟩, h1⟩ w
      have hv : decode_w1 y0 y1 y2 y3 y4 y5 y6 y7 y8 y9 y10 y11 y12 y13 y14 y15 = (decode_val y0 y1 y2 y3 y4 y5 y6 y7 y8 y9 y10 y11 y12 y13 y14 y15) := by
        clear hp
        unfold decode_w1 decode_val
        simp only [bne_eq_false_iff_eq, bne_iff_ne, ne_eq, beq_iff_eq, beq_eq_false_iff_ne, Bool.not_eq_true', Bool.not_eq_false', Bool.not_eq_eq_eq_not, Bool.not_true, Bool.not_false] at *
        (try simp (disch := first | exact inS_st | (unfold inB; assumption) | omega) only [rs1, rs, or0, orA, csY_eq] at *)
        (try simp (disch := first | omega) only [wsg, sg_in, wi] at *)
        (try simp only [Int.zero_add, nrm2] at *)
        first | (have hF : (fe y0 (csY y0 y1 y2 y3 y4 y5 y6 y7 y8 y9 y10 y11) (((y12 * 256 + y13) * 256 + y14) * 256 + y15)) = 0 := (by unfold fe; rw [if_pos (by omega), if_pos (by omega)]); rw [hF]; simp only [cz, ↓reduceIte]) | (have hF : (fe y0 (csY y0 y1 y2 y3 y4 y5 y6 y7 y8 y9 y10 y11) (((y12 * 256 + y13) * 256 + y14) * 256 + y15)) = 27 := (by unfold fe; rw [if_pos (by omega), if_neg (by omega)]); rw [hF]; rfl) | (have hF : (fe y0 (csY y0 y1 y2 y3 y4 y5 y6 y7 y8 y9 y10 y11) (((y12 * 256 + y13) * 256 + y14) * 256 + y15)) = 1 := (by unfold fe; rw [if_neg (by omega)]); rw [hF]; rfl)
      exact hv ▸ hp
    ·
      unfold decode_c1 at h1
      have hp := decode_p0 y0 y1 y2 y3 y4 y5 y6 y7 y8 y9 y10 y11 y12 y13 y14 y15 ⟨⟨⟨⟨⟨⟨⟨⟨⟨⟨⟨⟨⟨⟨⟨⟨⟨⟨⟨⟨⟨⟨⟨⟨⟨⟨⟨⟨⟨⟨⟨⟨⟨⟨⟨⟨⟨⟨⟨⟨⟨⟨⟨⟨⟨⟨⟨⟨⟨⟨⟨⟨⟨⟨⟨⟨⟨⟨⟨⟨⟨⟨⟨⟨⟨⟨⟨⟨⟨⟨⟨⟨trivial, decode_g0⟩, h0⟩, decode_g2⟩, decode_g0⟩, decode_g2⟩, decode_g3⟩, decode_g2⟩, decode_g4⟩, decode_g2⟩, decode_g5⟩, decode_g6⟩, decode_g2⟩, decode_g0⟩, decode_g2⟩, decode_g3⟩, decode_g2⟩, decode_g4⟩, decode_g2⟩, decode_g5⟩, decode_g2⟩, decode_g7⟩, decode_g2⟩, decode_g8⟩, decode_g2⟩, decode_g9⟩, decode_g2⟩, decode_g10⟩, decode_g2⟩, decode_g11⟩, decode_g2⟩, decode_g12⟩, decode_g2⟩, decode_g13⟩, decode_g2⟩, decode_g14⟩, decode_g6⟩, h1⟩, decode_g3⟩, decode_g2⟩, decode_g0⟩, decode_g2⟩, decode_g3⟩, decode_g6⟩, decode_g2⟩, decode_g2⟩, decode_g0⟩, decode_g2⟩, decode_g3⟩, decode_g6⟩, decode_g0⟩, decode_g2⟩, decode_g2⟩, decode_g0⟩, decode_g2⟩, decode_g3⟩, decode_g6⟩, decode_g3⟩, decode_g2⟩, decode_g2⟩, decode_g0⟩, decode_g2⟩, decode_g3⟩, decode_g6⟩, decode_g4⟩, decode_g2⟩, decode_g2⟩, decode_g0⟩, decode_g2⟩, decode_g3⟩, decode_g6⟩, decode_g5⟩, decode_g6⟩ w
      have hv : decode_w0 y0 y1 y2 y3 y4 y5 y6 y7 y8 y9 y10 y11 y12 y13 y14 y15 = (decode_val y0 y1 y2 y3 y4 y5 y6 y7 y8 y9 y10 y11 y12 y13 y14 y15) := by
        clear hp
        unfold decode_w0 decode_val
        simp only [bne_eq_false_iff_eq, bne_iff_ne, ne_eq, beq_iff_eq, beq_eq_false_iff_ne, Bool.not_eq_true', Bool.not_eq_false', Bool.not_eq_eq_eq_not, Bool.not_true, Bool.not_false] at *
        (try simp (disch := first | exact inS_st | (unfold inB; assumption) | omega) only [rs1, rs, or0, orA, csY_eq] at *)
        (try simp (disch := first | omega) only [wsg, sg_in, wi] at *)
        (try simp only [Int.zero_add, nrm2] at *)
        first | (have hF : (fe y0 (csY y0 y1 y2 y3 y4 y5 y6 y7 y8 y9 y10 y11) (((y12 * 256 + y13) * 256 + y14) * 256 + y15)) = 0 := (by unfold fe; rw [if_pos (by omega), if_pos (by omega)]); rw [hF]; simp only [cz, ↓reduceIte]) | (have hF : (fe y0 (csY y0 y1 y2 y3 y4 y5 y6 y7 y8 y9 y10 y11) (((y12 * 256 + y13) * 256 + y14) * 256 + y15)) = 27 := (by unfold fe; rw [if_pos (by omega), if_neg (by omega)]); rw [hF]; rfl) | (have hF : (fe y0 (csY y0 y1 y2 y3 y4 y5 y6 y7 y8 y9 y10 y11) (((y12 * 256 + y13) * 256 + y14) * 256 + y15)) = 1 := (by unfold fe; rw [if_neg (by omega)]); rw [hF]; rfl)
      exact hv ▸ hp
theorem k_decode : ConOk Tryz.prog c_decode := fun ns hl => by
  have hl0 : ns.length = 16 := hl
  clear hl
  obtain ⟨y0, ns0, rfl, hl1⟩ := len_cons hl0
  obtain ⟨y1, ns1, rfl, hl2⟩ := len_cons hl1
  obtain ⟨y2, ns2, rfl, hl3⟩ := len_cons hl2
  obtain ⟨y3, ns3, rfl, hl4⟩ := len_cons hl3
  obtain ⟨y4, ns4, rfl, hl5⟩ := len_cons hl4
  obtain ⟨y5, ns5, rfl, hl6⟩ := len_cons hl5
  obtain ⟨y6, ns6, rfl, hl7⟩ := len_cons hl6
  obtain ⟨y7, ns7, rfl, hl8⟩ := len_cons hl7
  obtain ⟨y8, ns8, rfl, hl9⟩ := len_cons hl8
  obtain ⟨y9, ns9, rfl, hl10⟩ := len_cons hl9
  obtain ⟨y10, ns10, rfl, hl11⟩ := len_cons hl10
  obtain ⟨y11, ns11, rfl, hl12⟩ := len_cons hl11
  obtain ⟨y12, ns12, rfl, hl13⟩ := len_cons hl12
  obtain ⟨y13, ns13, rfl, hl14⟩ := len_cons hl13
  obtain ⟨y14, ns14, rfl, hl15⟩ := len_cons hl14
  obtain ⟨y15, ns15, rfl, hl16⟩ := len_cons hl15
  obtain rfl := len_nil hl16
  exact ⟨rfl, fun h w => decode_any y0 y1 y2 y3 y4 y5 y6 y7 y8 y9 y10 y11 y12 y13 y14 y15 h w⟩
end Go.Proofs.YtgapibngfpafpaaGreatDoor
end
section
set_option linter.all false
set_option maxRecDepth 1000000
set_option maxHeartbeats 2000000
open Go.RowKit
namespace Go.Proofs.YtgapibngfpafpaaGreatDoor
open Mini

def rrange_val (n lo hi : Int) : Value := .int .i64 (Pl.cr n lo hi)
theorem rrange_X : FOkS Tryz.prog x_rrange := noXS_ok
theorem rrange_args (n lo hi : Int) : (#[.int .i64 n, .int .i64 lo, .int .i64 hi] : Array Value).toList.all (ground 8) = true := by kernel_rfl
def rrange_c0 (n lo hi : Int) : Bool := (decide (n < lo))
theorem rrange_g1 : (true = true) := by first | rfl | trivial | decide | omega
def rrange_c1 (n lo hi : Int) : Bool := (decide (n > hi))
def rrange_w0 (n lo hi : Int) : Value := .int .i64 (3 : Int)
def rrange_r0 (n lo hi : Int) : Prop := (((((True ∧ (rrange_c0 n lo hi = true)) ∧ (rrange_c0 n lo hi = true)) ∧ (rrange_c0 n lo hi = true)) ∧ (rrange_c0 n lo hi = true)) ∧ ((true = true)))
theorem rrange_o0 (n lo hi : Int) : obOf (rrange_e0 n lo hi) = rrange_r0 n lo hi := by kernel_rfl
theorem rrange_v0 (n lo hi : Int) : resOf (rrange_e0 n lo hi) = rrange_w0 n lo hi := by kernel_rfl
theorem rrange_k0 (n lo hi : Int) : cleanOf Tryz.prog.globals.size (rrange_e0 n lo hi) = true := by kernel_rfl
theorem rrange_q0 (n lo hi : Int) : rrange_e0 n lo hi = evFS Tryz.prog x_rrange 1000 15 #[.int .i64 n, .int .i64 lo, .int .i64 hi] (noTabs 6) ⟨[0, 0, 0, 1, 1], True⟩ := by
  delta rrange_e0
  exact Eq.refl _
theorem rrange_p0 (n lo hi : Int) (h : rrange_r0 n lo hi) (w : World) : Calls Tryz.prog 15 #[.int .i64 n, .int .i64 lo, .int .i64 hi] w fun en w' => en = .returned (rrange_w0 n lo hi) ∧ Below w.heap.size w w' := by
  have hv := rrange_v0 n lo hi
  have hc := rrange_k0 n lo hi
  have he := rrange_q0 n lo hi
  have ho := rrange_o0 n lo hi
  generalize rrange_e0 n lo hi = r at *
  exact calls_way he gfol rrange_X hv rfl (rrange_args n lo hi) hc ho h (bl w)
def rrange_w1 (n lo hi : Int) : Value := .int .i64 (3 : Int)
def rrange_r1 (n lo hi : Int) : Prop := (((((True ∧ (rrange_c0 n lo hi = false)) ∧ (rrange_c0 n lo hi = false)) ∧ (rrange_c0 n lo hi = false)) ∧ (rrange_c0 n lo hi = false)) ∧ (rrange_c1 n lo hi = true))
theorem rrange_o1 (n lo hi : Int) : obOf (rrange_e1 n lo hi) = rrange_r1 n lo hi := by kernel_rfl
theorem rrange_v1 (n lo hi : Int) : resOf (rrange_e1 n lo hi) = rrange_w1 n lo hi := by kernel_rfl
theorem rrange_k1 (n lo hi : Int) : cleanOf Tryz.prog.globals.size (rrange_e1 n lo hi) = true := by kernel_rfl
theorem rrange_q1 (n lo hi : Int) : rrange_e1 n lo hi = evFS Tryz.prog x_rrange 1000 15 #[.int .i64 n, .int .i64 lo, .int .i64 hi] (noTabs 6) ⟨[1, 1, 1, 0, 1], True⟩ := by
  delta rrange_e1
  exact Eq.refl _
theorem rrange_p1 (n lo hi : Int) (h : rrange_r1 n lo hi) (w : World) : Calls Tryz.prog 15 #[.int .i64 n, .int .i64 lo, .int .i64 hi] w fun en w' => en = .returned (rrange_w1 n lo hi) ∧ Below w.heap.size w w' := by
  have hv := rrange_v1 n lo hi
  have hc := rrange_k1 n lo hi
  have he := rrange_q1 n lo hi
  have ho := rrange_o1 n lo hi
  generalize rrange_e1 n lo hi = r at *
  exact calls_way he gfol rrange_X hv rfl (rrange_args n lo hi) hc ho h (bl w)
def rrange_w2 (n lo hi : Int) : Value := .int .i64 (0 : Int)
def rrange_r2 (n lo hi : Int) : Prop := (((((True ∧ (rrange_c0 n lo hi = false)) ∧ (rrange_c0 n lo hi = false)) ∧ (rrange_c0 n lo hi = false)) ∧ (rrange_c0 n lo hi = false)) ∧ (rrange_c1 n lo hi = false))
theorem rrange_o2 (n lo hi : Int) : obOf (rrange_e2 n lo hi) = rrange_r2 n lo hi := by kernel_rfl
theorem rrange_v2 (n lo hi : Int) : resOf (rrange_e2 n lo hi) = rrange_w2 n lo hi := by kernel_rfl
theorem rrange_k2 (n lo hi : Int) : cleanOf Tryz.prog.globals.size (rrange_e2 n lo hi) = true := by kernel_rfl
theorem rrange_q2 (n lo hi : Int) : rrange_e2 n lo hi = evFS Tryz.prog x_rrange 1000 15 #[.int .i64 n, .int .i64 lo, .int .i64 hi] (noTabs 6) ⟨[1, 1, 1, 0, 0], True⟩ := by
  delta rrange_e2
  exact Eq.refl _
theorem rrange_p2 (n lo hi : Int) (h : rrange_r2 n lo hi) (w : World) : Calls Tryz.prog 15 #[.int .i64 n, .int .i64 lo, .int .i64 hi] w fun en w' => en = .returned (rrange_w2 n lo hi) ∧ Below w.heap.size w w' := by
  have hv := rrange_v2 n lo hi
  have hc := rrange_k2 n lo hi
  have he := rrange_q2 n lo hi
  have ho := rrange_o2 n lo hi
  generalize rrange_e2 n lo hi = r at *
  exact calls_way he gfol rrange_X hv rfl (rrange_args n lo hi) hc ho h (bl w)
theorem rrange_any (n lo hi : Int) (hpre : True) (w : World) : Calls Tryz.prog 15 #[.int .i64 n, .int .i64 lo, .int .i64 hi] w fun en w' => en = .returned (rrange_val n lo hi) ∧ Below w.heap.size w w' := by
  rcases Bool.eq_false_or_eq_true (rrange_c0 n lo hi) with h0 | h0
  ·
    unfold rrange_c0 at h0
    have hp := rrange_p0 n lo hi ⟨⟨⟨⟨⟨trivial, h0⟩, h0⟩, h0⟩, h0⟩, rrange_g1⟩ w
    have hv : rrange_w0 n lo hi = (rrange_val n lo hi) := by
      clear hp
      unfold rrange_w0 rrange_val
      first | rfl | ((try simp only [bne_iff_ne, ne_eq, decide_eq_true_eq, decide_eq_false_iff_not, Bool.not_eq_true', Bool.not_eq_false', beq_iff_eq, beq_eq_false_iff_ne, bne_eq_false_iff_eq, Bool.and_eq_true, Bool.not_eq_true, Bool.not_eq_false, Pl.cr] at *); grind)
    exact hv ▸ hp
  ·
    unfold rrange_c0 at h0
    rcases Bool.eq_false_or_eq_true (rrange_c1 n lo hi) with h1 | h1
    ·
      unfold rrange_c1 at h1
      have hp := rrange_p1 n lo hi ⟨⟨⟨⟨⟨trivial, h0⟩, h0⟩, h0⟩, h0⟩, h1⟩ w
      have hv : rrange_w1 n lo hi = (rrange_val n lo hi) := by
        clear hp
        unfold rrange_w1 rrange_val
        first | rfl | ((try simp only [bne_iff_ne, ne_eq, decide_eq_true_eq, decide_eq_false_iff_not, Bool.not_eq_true', Bool.not_eq_false', beq_iff_eq, beq_eq_false_iff_ne, bne_eq_false_iff_eq, Bool.and_eq_true, Bool.not_eq_true, Bool.not_eq_false, Pl.cr] at *); grind)
      exact hv ▸ hp
    ·
      unfold rrange_c1 at h1
      have hp := rrange_p2 n lo hi ⟨⟨⟨⟨⟨trivial, h0⟩, h0⟩, h0⟩, h0⟩, h1⟩ w
      have hv : rrange_w2 n lo hi = (rrange_val n lo hi) := by
        clear hp
        unfold rrange_w2 rrange_val
        first | rfl | ((try simp only [bne_iff_ne, ne_eq, decide_eq_true_eq, decide_eq_false_iff_not, Bool.not_eq_true', Bool.not_eq_false', beq_iff_eq, beq_eq_false_iff_ne, bne_eq_false_iff_eq, Bool.and_eq_true, Bool.not_eq_true, Bool.not_eq_false, Pl.cr] at *); grind)
      exact hv ▸ hp
theorem k_rrange : ConOk Tryz.prog c_rrange := fun ns hl => by
  have hl0 : ns.length = 3 := hl
  clear hl
  obtain ⟨n, ns0, rfl, hl1⟩ := len_cons hl0
  obtain ⟨lo, ns1, rfl, hl2⟩ := len_cons hl1
  obtain ⟨hi, ns2, rfl, hl3⟩ := len_cons hl2
  obtain rfl := len_nil hl3
  exact ⟨rfl, fun h w => rrange_any n lo hi h w⟩
end Go.Proofs.YtgapibngfpafpaaGreatDoor
end
section
set_option linter.all false
set_option maxRecDepth 1000000
set_option maxHeartbeats 2000000
open Go.RowKit
namespace Go.Proofs.YtgapibngfpafpaaGreatDoor
open Mini

def rcheckT_val (t0 t1 t2 t3 t4 t5 : Int) : Value := .int .i64 (th6 (Pl.cr t0 0 255) (Pl.cr t1 0 65535) (Pl.cr t2 (-32768) 32767) (Pl.cr t3 (-32768) 32767) (Pl.cr t4 (-32768) 32767) (Pl.cr t5 (-32768) 32767))
theorem rcheckT_X : FOkS Tryz.prog x_rcheckT := kAll_ok _ ⟨k_rrange, trivial⟩
theorem rcheckT_args (t0 t1 t2 t3 t4 t5 : Int) : (#[.agg #[.int .i64 t0, .int .i64 t1, .int .i64 t2, .int .i64 t3, .int .i64 t4, .int .i64 t5]] : Array Value).toList.all (ground 8) = true := by kernel_rfl
theorem rcheckT_g0 : True := by first | rfl | trivial | decide | omega
theorem rcheckT_g1 : (true = true) := by first | rfl | trivial | decide | omega
theorem rcheckT_g2 : ((0 : Int) = (Int.ofNat 0)) := by first | rfl | trivial | decide | omega
theorem rcheckT_g3 : ((1 : Int) = (Int.ofNat 1)) := by first | rfl | trivial | decide | omega
theorem rcheckT_g4 : ((2 : Int) = (Int.ofNat 2)) := by first | rfl | trivial | decide | omega
theorem rcheckT_g5 : ((3 : Int) = (Int.ofNat 3)) := by first | rfl | trivial | decide | omega
theorem rcheckT_g6 : (false = false) := by first | rfl | trivial | decide | omega
def rcheckT_c0 (t0 t1 t2 t3 t4 t5 : Int) : Bool := ((Pl.cr t0 (0 : Int) (255 : Int)) != (0 : Int))
def rcheckT_c1 (t0 t1 t2 t3 t4 t5 : Int) : Bool := ((Pl.cr t1 (0 : Int) (65535 : Int)) != (0 : Int))
def rcheckT_c2 (t0 t1 t2 t3 t4 t5 : Int) : Bool := ((Pl.cr t2 (-32768 : Int) (32767 : Int)) != (0 : Int))
def rcheckT_c3 (t0 t1 t2 t3 t4 t5 : Int) : Bool := ((Pl.cr t3 (-32768 : Int) (32767 : Int)) != (0 : Int))
theorem rcheckT_g11 : ((4 : Int) = (Int.ofNat 4)) := by first | rfl | trivial | decide | omega
def rcheckT_c4 (t0 t1 t2 t3 t4 t5 : Int) : Bool := ((Pl.cr t4 (-32768 : Int) (32767 : Int)) != (0 : Int))
theorem rcheckT_g13 : ((5 : Int) = (Int.ofNat 5)) := by first | rfl | trivial | decide | omega
def rcheckT_c5 (t0 t1 t2 t3 t4 t5 : Int) : Bool := ((Pl.cr t5 (-32768 : Int) (32767 : Int)) != (0 : Int))
def rcheckT_w0 (t0 t1 t2 t3 t4 t5 : Int) : Value := .int .i64 (Pl.cr t5 (-32768 : Int) (32767 : Int))
def rcheckT_r0 (t0 t1 t2 t3 t4 t5 : Int) : Prop := ((((((((((((((((((((((((((((((((((True ∧ (True)) ∧ (True)) ∧ ((true = true))) ∧ (((0 : Int) = (Int.ofNat 0)))) ∧ (True)) ∧ ((true = true))) ∧ (((1 : Int) = (Int.ofNat 1)))) ∧ (True)) ∧ ((true = true))) ∧ (((2 : Int) = (Int.ofNat 2)))) ∧ (True)) ∧ ((true = true))) ∧ (((3 : Int) = (Int.ofNat 3)))) ∧ (True)) ∧ ((false = false))) ∧ ((true = true))) ∧ (((0 : Int) = (Int.ofNat 0)))) ∧ (rcheckT_c0 t0 t1 t2 t3 t4 t5 = false)) ∧ ((true = true))) ∧ (((1 : Int) = (Int.ofNat 1)))) ∧ (rcheckT_c1 t0 t1 t2 t3 t4 t5 = false)) ∧ ((true = true))) ∧ (((2 : Int) = (Int.ofNat 2)))) ∧ (rcheckT_c2 t0 t1 t2 t3 t4 t5 = false)) ∧ ((true = true))) ∧ (((3 : Int) = (Int.ofNat 3)))) ∧ (rcheckT_c3 t0 t1 t2 t3 t4 t5 = false)) ∧ ((true = true))) ∧ (((4 : Int) = (Int.ofNat 4)))) ∧ (rcheckT_c4 t0 t1 t2 t3 t4 t5 = false)) ∧ ((true = true))) ∧ (((5 : Int) = (Int.ofNat 5)))) ∧ (rcheckT_c5 t0 t1 t2 t3 t4 t5 = true)) ∧ (((5 : Int) = (Int.ofNat 5))))
theorem rcheckT_o0 (t0 t1 t2 t3 t4 t5 : Int) : obOf (rcheckT_e0 t0 t1 t2 t3 t4 t5) = rcheckT_r0 t0 t1 t2 t3 t4 t5 := by kernel_rfl
theorem rcheckT_v0 (t0 t1 t2 t3 t4 t5 : Int) : resOf (rcheckT_e0 t0 t1 t2 t3 t4 t5) = rcheckT_w0 t0 t1 t2 t3 t4 t5 := by kernel_rfl
theorem rcheckT_k0 (t0 t1 t2 t3 t4 t5 : Int) : cleanOf Tryz.prog.globals.size (rcheckT_e0 t0 t1 t2 t3 t4 t5) = true := by kernel_rfl
theorem rcheckT_q0 (t0 t1 t2 t3 t4 t5 : Int) : rcheckT_e0 t0 t1 t2 t3 t4 t5 = evFS Tryz.prog x_rcheckT 1000 6 #[.agg #[.int .i64 t0, .int .i64 t1, .int .i64 t2, .int .i64 t3, .int .i64 t4, .int .i64 t5]] (noTabs 6) ⟨[1, 0, 1, 1, 1, 2, 1, 3, 0, 1, 0, 0, 1, 1, 0, 1, 2, 0, 1, 3, 0, 1, 4, 0, 1, 5, 1, 5], True⟩ := by
  delta rcheckT_e0
  exact Eq.refl _
theorem rcheckT_p0 (t0 t1 t2 t3 t4 t5 : Int) (h : rcheckT_r0 t0 t1 t2 t3 t4 t5) (w : World) : Calls Tryz.prog 6 #[.agg #[.int .i64 t0, .int .i64 t1, .int .i64 t2, .int .i64 t3, .int .i64 t4, .int .i64 t5]] w fun en w' => en = .returned (rcheckT_w0 t0 t1 t2 t3 t4 t5) ∧ Below w.heap.size w w' := by
  have hv := rcheckT_v0 t0 t1 t2 t3 t4 t5
  have hc := rcheckT_k0 t0 t1 t2 t3 t4 t5
  have he := rcheckT_q0 t0 t1 t2 t3 t4 t5
  have ho := rcheckT_o0 t0 t1 t2 t3 t4 t5
  generalize rcheckT_e0 t0 t1 t2 t3 t4 t5 = r at *
  exact calls_way he gfol rcheckT_X hv rfl (rcheckT_args t0 t1 t2 t3 t4 t5) hc ho h (bl w)
def rcheckT_w1 (t0 t1 t2 t3 t4 t5 : Int) : Value := .int .i64 (Pl.cr t0 (0 : Int) (255 : Int))
def rcheckT_r1 (t0 t1 t2 t3 t4 t5 : Int) : Prop := (((((((((((((((((((True ∧ (True)) ∧ (True)) ∧ ((true = true))) ∧ (((0 : Int) = (Int.ofNat 0)))) ∧ (True)) ∧ ((true = true))) ∧ (((1 : Int) = (Int.ofNat 1)))) ∧ (True)) ∧ ((true = true))) ∧ (((2 : Int) = (Int.ofNat 2)))) ∧ (True)) ∧ ((true = true))) ∧ (((3 : Int) = (Int.ofNat 3)))) ∧ (True)) ∧ ((false = false))) ∧ ((true = true))) ∧ (((0 : Int) = (Int.ofNat 0)))) ∧ (rcheckT_c0 t0 t1 t2 t3 t4 t5 = true)) ∧ (((0 : Int) = (Int.ofNat 0))))
theorem rcheckT_o1 (t0 t1 t2 t3 t4 t5 : Int) : obOf (rcheckT_e1 t0 t1 t2 t3 t4 t5) = rcheckT_r1 t0 t1 t2 t3 t4 t5 := by kernel_rfl
theorem rcheckT_v1 (t0 t1 t2 t3 t4 t5 : Int) : resOf (rcheckT_e1 t0 t1 t2 t3 t4 t5) = rcheckT_w1 t0 t1 t2 t3 t4 t5 := by kernel_rfl
theorem rcheckT_k1 (t0 t1 t2 t3 t4 t5 : Int) : cleanOf Tryz.prog.globals.size (rcheckT_e1 t0 t1 t2 t3 t4 t5) = true := by kernel_rfl
theorem rcheckT_q1 (t0 t1 t2 t3 t4 t5 : Int) : rcheckT_e1 t0 t1 t2 t3 t4 t5 = evFS Tryz.prog x_rcheckT 1000 6 #[.agg #[.int .i64 t0, .int .i64 t1, .int .i64 t2, .int .i64 t3, .int .i64 t4, .int .i64 t5]] (noTabs 6) ⟨[1, 0, 1, 1, 1, 2, 1, 3, 0, 1, 0, 1, 0], True⟩ := by
  delta rcheckT_e1
  exact Eq.refl _
theorem rcheckT_p1 (t0 t1 t2 t3 t4 t5 : Int) (h : rcheckT_r1 t0 t1 t2 t3 t4 t5) (w : World) : Calls Tryz.prog 6 #[.agg #[.int .i64 t0, .int .i64 t1, .int .i64 t2, .int .i64 t3, .int .i64 t4, .int .i64 t5]] w fun en w' => en = .returned (rcheckT_w1 t0 t1 t2 t3 t4 t5) ∧ Below w.heap.size w w' := by
  have hv := rcheckT_v1 t0 t1 t2 t3 t4 t5
  have hc := rcheckT_k1 t0 t1 t2 t3 t4 t5
  have he := rcheckT_q1 t0 t1 t2 t3 t4 t5
  have ho := rcheckT_o1 t0 t1 t2 t3 t4 t5
  generalize rcheckT_e1 t0 t1 t2 t3 t4 t5 = r at *
  exact calls_way he gfol rcheckT_X hv rfl (rcheckT_args t0 t1 t2 t3 t4 t5) hc ho h (bl w)
def rcheckT_w2 (t0 t1 t2 t3 t4 t5 : Int) : Value := .int .i64 (0 : Int)
def rcheckT_r2 (t0 t1 t2 t3 t4 t5 : Int) : Prop := ((((((((((((((((((((((((((((((((((True ∧ (True)) ∧ (True)) ∧ ((true = true))) ∧ (((0 : Int) = (Int.ofNat 0)))) ∧ (True)) ∧ ((true = true))) ∧ (((1 : Int) = (Int.ofNat 1)))) ∧ (True)) ∧ ((true = true))) ∧ (((2 : Int) = (Int.ofNat 2)))) ∧ (True)) ∧ ((true = true))) ∧ (((3 : Int) = (Int.ofNat 3)))) ∧ (True)) ∧ ((false = false))) ∧ ((true = true))) ∧ (((0 : Int) = (Int.ofNat 0)))) ∧ (rcheckT_c0 t0 t1 t2 t3 t4 t5 = false)) ∧ ((true = true))) ∧ (((1 : Int) = (Int.ofNat 1)))) ∧ (rcheckT_c1 t0 t1 t2 t3 t4 t5 = false)) ∧ ((true = true))) ∧ (((2 : Int) = (Int.ofNat 2)))) ∧ (rcheckT_c2 t0 t1 t2 t3 t4 t5 = false)) ∧ ((true = true))) ∧ (((3 : Int) = (Int.ofNat 3)))) ∧ (rcheckT_c3 t0 t1 t2 t3 t4 t5 = false)) ∧ ((true = true))) ∧ (((4 : Int) = (Int.ofNat 4)))) ∧ (rcheckT_c4 t0 t1 t2 t3 t4 t5 = false)) ∧ ((true = true))) ∧ (((5 : Int) = (Int.ofNat 5)))) ∧ (rcheckT_c5 t0 t1 t2 t3 t4 t5 = false)) ∧ ((false = false)))
theorem rcheckT_o2 (t0 t1 t2 t3 t4 t5 : Int) : obOf (rcheckT_e2 t0 t1 t2 t3 t4 t5) = rcheckT_r2 t0 t1 t2 t3 t4 t5 := by kernel_rfl
theorem rcheckT_v2 (t0 t1 t2 t3 t4 t5 : Int) : resOf (rcheckT_e2 t0 t1 t2 t3 t4 t5) = rcheckT_w2 t0 t1 t2 t3 t4 t5 := by kernel_rfl
theorem rcheckT_k2 (t0 t1 t2 t3 t4 t5 : Int) : cleanOf Tryz.prog.globals.size (rcheckT_e2 t0 t1 t2 t3 t4 t5) = true := by kernel_rfl
theorem rcheckT_q2 (t0 t1 t2 t3 t4 t5 : Int) : rcheckT_e2 t0 t1 t2 t3 t4 t5 = evFS Tryz.prog x_rcheckT 1000 6 #[.agg #[.int .i64 t0, .int .i64 t1, .int .i64 t2, .int .i64 t3, .int .i64 t4, .int .i64 t5]] (noTabs 6) ⟨[1, 0, 1, 1, 1, 2, 1, 3, 0, 1, 0, 0, 1, 1, 0, 1, 2, 0, 1, 3, 0, 1, 4, 0, 1, 5, 0, 0], True⟩ := by
  delta rcheckT_e2
  exact Eq.refl _
theorem rcheckT_p2 (t0 t1 t2 t3 t4 t5 : Int) (h : rcheckT_r2 t0 t1 t2 t3 t4 t5) (w : World) : Calls Tryz.prog 6 #[.agg #[.int .i64 t0, .int .i64 t1, .int .i64 t2, .int .i64 t3, .int .i64 t4, .int .i64 t5]] w fun en w' => en = .returned (rcheckT_w2 t0 t1 t2 t3 t4 t5) ∧ Below w.heap.size w w' := by
  have hv := rcheckT_v2 t0 t1 t2 t3 t4 t5
  have hc := rcheckT_k2 t0 t1 t2 t3 t4 t5
  have he := rcheckT_q2 t0 t1 t2 t3 t4 t5
  have ho := rcheckT_o2 t0 t1 t2 t3 t4 t5
  generalize rcheckT_e2 t0 t1 t2 t3 t4 t5 = r at *
  exact calls_way he gfol rcheckT_X hv rfl (rcheckT_args t0 t1 t2 t3 t4 t5) hc ho h (bl w)
def rcheckT_w3 (t0 t1 t2 t3 t4 t5 : Int) : Value := .int .i64 (Pl.cr t2 (-32768 : Int) (32767 : Int))
def rcheckT_r3 (t0 t1 t2 t3 t4 t5 : Int) : Prop := (((((((((((((((((((((((((True ∧ (True)) ∧ (True)) ∧ ((true = true))) ∧ (((0 : Int) = (Int.ofNat 0)))) ∧ (True)) ∧ ((true = true))) ∧ (((1 : Int) = (Int.ofNat 1)))) ∧ (True)) ∧ ((true = true))) ∧ (((2 : Int) = (Int.ofNat 2)))) ∧ (True)) ∧ ((true = true))) ∧ (((3 : Int) = (Int.ofNat 3)))) ∧ (True)) ∧ ((false = false))) ∧ ((true = true))) ∧ (((0 : Int) = (Int.ofNat 0)))) ∧ (rcheckT_c0 t0 t1 t2 t3 t4 t5 = false)) ∧ ((true = true))) ∧ (((1 : Int) = (Int.ofNat 1)))) ∧ (rcheckT_c1 t0 t1 t2 t3 t4 t5 = false)) ∧ ((true = true))) ∧ (((2 : Int) = (Int.ofNat 2)))) ∧ (rcheckT_c2 t0 t1 t2 t3 t4 t5 = true)) ∧ (((2 : Int) = (Int.ofNat 2))))
theorem rcheckT_o3 (t0 t1 t2 t3 t4 t5 : Int) : obOf (rcheckT_e3 t0 t1 t2 t3 t4 t5) = rcheckT_r3 t0 t1 t2 t3 t4 t5 := by kernel_rfl
theorem rcheckT_v3 (t0 t1 t2 t3 t4 t5 : Int) : resOf (rcheckT_e3 t0 t1 t2 t3 t4 t5) = rcheckT_w3 t0 t1 t2 t3 t4 t5 := by kernel_rfl
theorem rcheckT_k3 (t0 t1 t2 t3 t4 t5 : Int) : cleanOf Tryz.prog.globals.size (rcheckT_e3 t0 t1 t2 t3 t4 t5) = true := by kernel_rfl
theorem rcheckT_q3 (t0 t1 t2 t3 t4 t5 : Int) : rcheckT_e3 t0 t1 t2 t3 t4 t5 = evFS Tryz.prog x_rcheckT 1000 6 #[.agg #[.int .i64 t0, .int .i64 t1, .int .i64 t2, .int .i64 t3, .int .i64 t4, .int .i64 t5]] (noTabs 6) ⟨[1, 0, 1, 1, 1, 2, 1, 3, 0, 1, 0, 0, 1, 1, 0, 1, 2, 1, 2], True⟩ := by
  delta rcheckT_e3
  exact Eq.refl _
theorem rcheckT_p3 (t0 t1 t2 t3 t4 t5 : Int) (h : rcheckT_r3 t0 t1 t2 t3 t4 t5) (w : World) : Calls Tryz.prog 6 #[.agg #[.int .i64 t0, .int .i64 t1, .int .i64 t2, .int .i64 t3, .int .i64 t4, .int .i64 t5]] w fun en w' => en = .returned (rcheckT_w3 t0 t1 t2 t3 t4 t5) ∧ Below w.heap.size w w' := by
  have hv := rcheckT_v3 t0 t1 t2 t3 t4 t5
  have hc := rcheckT_k3 t0 t1 t2 t3 t4 t5
  have he := rcheckT_q3 t0 t1 t2 t3 t4 t5
  have ho := rcheckT_o3 t0 t1 t2 t3 t4 t5
  generalize rcheckT_e3 t0 t1 t2 t3 t4 t5 = r at *
  exact calls_way he gfol rcheckT_X hv rfl (rcheckT_args t0 t1 t2 t3 t4 t5) hc ho h (bl w)
def rcheckT_w4 (t0 t1 t2 t3 t4 t5 : Int) : Value := .int .i64 (Pl.cr t4 (-32768 : Int) (32767 : Int))
def rcheckT_r4 (t0 t1 t2 t3 t4 t5 : Int) : Prop := (((((((((((((((((((((((((((((((True ∧ (True)) ∧ (True)) ∧ ((true = true))) ∧ (((0 : Int) = (Int.ofNat 0)))) ∧ (True)) ∧ ((true = true))) ∧ (((1 : Int) = (Int.ofNat 1)))) ∧ (True)) ∧ ((true = true))) ∧ (((2 : Int) = (Int.ofNat 2)))) ∧ (True)) ∧ ((true = true))) ∧ (((3 : Int) = (Int.ofNat 3)))) ∧ (True)) ∧ ((false = false))) ∧ ((true = true))) ∧ (((0 : Int) = (Int.ofNat 0)))) ∧ (rcheckT_c0 t0 t1 t2 t3 t4 t5 = false)) ∧ ((true = true))) ∧ (((1 : Int) = (Int.ofNat 1)))) ∧ (rcheckT_c1 t0 t1 t2 t3 t4 t5 = false)) ∧ ((true = true))) ∧ (((2 : Int) = (Int.ofNat 2)))) ∧ (rcheckT_c2 t0 t1 t2 t3 t4 t5 = false)) ∧ ((true = true))) ∧ (((3 : Int) = (Int.ofNat 3)))) ∧ (rcheckT_c3 t0 t1 t2 t3 t4 t5 = false)) ∧ ((true = true))) ∧ (((4 : Int) = (Int.ofNat 4)))) ∧ (rcheckT_c4 t0 t1 t2 t3 t4 t5 = true)) ∧ (((4 : Int) = (Int.ofNat 4))))
theorem rcheckT_o4 (t0 t1 t2 t3 t4 t5 : Int) : obOf (rcheckT_e4 t0 t1 t2 t3 t4 t5) = rcheckT_r4 t0 t1 t2 t3 t4 t5 := by kernel_rfl
theorem rcheckT_v4 (t0 t1 t2 t3 t4 t5 : Int) : resOf (rcheckT_e4 t0 t1 t2 t3 t4 t5) = rcheckT_w4 t0 t1 t2 t3 t4 t5 := by kernel_rfl
theorem rcheckT_k4 (t0 t1 t2 t3 t4 t5 : Int) : cleanOf Tryz.prog.globals.size (rcheckT_e4 t0 t1 t2 t3 t4 t5) = true := by kernel_rfl
theorem rcheckT_q4 (t0 t1 t2 t3 t4 t5 : Int) : rcheckT_e4 t0 t1 t2 t3 t4 t5 = evFS Tryz.prog x_rcheckT 1000 6 #[.agg #[.int .i64 t0, .int .i64 t1, .int .i64 t2, .int .i64 t3, .int .i64 t4, .int .i64 t5]] (noTabs 6) ⟨[1, 0, 1, 1, 1, 2, 1, 3, 0, 1, 0, 0, 1, 1, 0, 1, 2, 0, 1, 3, 0, 1, 4, 1, 4], True⟩ := by
  delta rcheckT_e4
  exact Eq.refl _
theorem rcheckT_p4 (t0 t1 t2 t3 t4 t5 : Int) (h : rcheckT_r4 t0 t1 t2 t3 t4 t5) (w : World) : Calls Tryz.prog 6 #[.agg #[.int .i64 t0, .int .i64 t1, .int .i64 t2, .int .i64 t3, .int .i64 t4, .int .i64 t5]] w fun en w' => en = .returned (rcheckT_w4 t0 t1 t2 t3 t4 t5) ∧ Below w.heap.size w w' := by
  have hv := rcheckT_v4 t0 t1 t2 t3 t4 t5
  have hc := rcheckT_k4 t0 t1 t2 t3 t4 t5
  have he := rcheckT_q4 t0 t1 t2 t3 t4 t5
  have ho := rcheckT_o4 t0 t1 t2 t3 t4 t5
  generalize rcheckT_e4 t0 t1 t2 t3 t4 t5 = r at *
  exact calls_way he gfol rcheckT_X hv rfl (rcheckT_args t0 t1 t2 t3 t4 t5) hc ho h (bl w)
def rcheckT_w5 (t0 t1 t2 t3 t4 t5 : Int) : Value := .int .i64 (Pl.cr t1 (0 : Int) (65535 : Int))
def rcheckT_r5 (t0 t1 t2 t3 t4 t5 : Int) : Prop := ((((((((((((((((((((((True ∧ (True)) ∧ (True)) ∧ ((true = true))) ∧ (((0 : Int) = (Int.ofNat 0)))) ∧ (True)) ∧ ((true = true))) ∧ (((1 : Int) = (Int.ofNat 1)))) ∧ (True)) ∧ ((true = true))) ∧ (((2 : Int) = (Int.ofNat 2)))) ∧ (True)) ∧ ((true = true))) ∧ (((3 : Int) = (Int.ofNat 3)))) ∧ (True)) ∧ ((false = false))) ∧ ((true = true))) ∧ (((0 : Int) = (Int.ofNat 0)))) ∧ (rcheckT_c0 t0 t1 t2 t3 t4 t5 = false)) ∧ ((true = true))) ∧ (((1 : Int) = (Int.ofNat 1)))) ∧ (rcheckT_c1 t0 t1 t2 t3 t4 t5 = true)) ∧ (((1 : Int) = (Int.ofNat 1))))
theorem rcheckT_o5 (t0 t1 t2 t3 t4 t5 : Int) : obOf (rcheckT_e5 t0 t1 t2 t3 t4 t5) = rcheckT_r5 t0 t1 t2 t3 t4 t5 := by kernel_rfl
theorem rcheckT_v5 (t0 t1 t2 t3 t4 t5 : Int) : resOf (rcheckT_e5 t0 t1 t2 t3 t4 t5) = rcheckT_w5 t0 t1 t2 t3 t4 t5 := by kernel_rfl
theorem rcheckT_k5 (t0 t1 t2 t3 t4 t5 : Int) : cleanOf Tryz.prog.globals.size (rcheckT_e5 t0 t1 t2 t3 t4 t5) = true := by kernel_rfl
theorem rcheckT_q5 (t0 t1 t2 t3 t4 t5 : Int) : rcheckT_e5 t0 t1 t2 t3 t4 t5 = evFS Tryz.prog x_rcheckT 1000 6 #[.agg #[.int .i64 t0, .int .i64 t1, .int .i64 t2, .int .i64 t3, .int .i64 t4, .int .i64 t5]] (noTabs 6) ⟨[1, 0, 1, 1, 1, 2, 1, 3, 0, 1, 0, 0, 1, 1, 1, 1], True⟩ := by
  delta rcheckT_e5
  exact Eq.refl _
theorem rcheckT_p5 (t0 t1 t2 t3 t4 t5 : Int) (h : rcheckT_r5 t0 t1 t2 t3 t4 t5) (w : World) : Calls Tryz.prog 6 #[.agg #[.int .i64 t0, .int .i64 t1, .int .i64 t2, .int .i64 t3, .int .i64 t4, .int .i64 t5]] w fun en w' => en = .returned (rcheckT_w5 t0 t1 t2 t3 t4 t5) ∧ Below w.heap.size w w' := by
  have hv := rcheckT_v5 t0 t1 t2 t3 t4 t5
  have hc := rcheckT_k5 t0 t1 t2 t3 t4 t5
  have he := rcheckT_q5 t0 t1 t2 t3 t4 t5
  have ho := rcheckT_o5 t0 t1 t2 t3 t4 t5
  generalize rcheckT_e5 t0 t1 t2 t3 t4 t5 = r at *
  exact calls_way he gfol rcheckT_X hv rfl (rcheckT_args t0 t1 t2 t3 t4 t5) hc ho h (bl w)
def rcheckT_w6 (t0 t1 t2 t3 t4 t5 : Int) : Value := .int .i64 (Pl.cr t3 (-32768 : Int) (32767 : Int))
def rcheckT_r6 (t0 t1 t2 t3 t4 t5 : Int) : Prop := ((((((((((((((((((((((((((((True ∧ (True)) ∧ (True)) ∧ ((true = true))) ∧ (((0 : Int) = (Int.ofNat 0)))) ∧ (True)) ∧ ((true = true))) ∧ (((1 : Int) = (Int.ofNat 1)))) ∧ (True)) ∧ ((true = true))) ∧ (((2 : Int) = (Int.ofNat 2)))) ∧ (True)) ∧ ((true = true))) ∧ (((3 : Int) = (Int.ofNat 3)))) ∧ (True)) ∧ ((false = false))) ∧ ((true = true))) ∧ (((0 : Int) = (Int.ofNat 0)))) ∧ (rcheckT_c0 t0 t1 t2 t3 t4 t5 = false)) ∧ ((true = true))) ∧ (((1 : Int) = (Int.ofNat 1)))) ∧ (rcheckT_c1 t0 t1 t2 t3 t4 t5 = false)) ∧ ((true = true))) ∧ (((2 : Int) = (Int.ofNat 2)))) ∧ (rcheckT_c2 t0 t1 t2 t3 t4 t5 = false)) ∧ ((true = true))) ∧ (((3 : Int) = (Int.ofNat 3)))) ∧ (rcheckT_c3 t0 t1 t2 t3 t4 t5 = true)) ∧ (((3 : Int) = (Int.ofNat 3))))
theorem rcheckT_o6 (t0 t1 t2 t3 t4 t5 : Int) : obOf (rcheckT_e6 t0 t1 t2 t3 t4 t5) = rcheckT_r6 t0 t1 t2 t3 t4 t5 := by kernel_rfl
theorem rcheckT_v6 (t0 t1 t2 t3 t4 t5 : Int) : resOf (rcheckT_e6 t0 t1 t2 t3 t4 t5) = rcheckT_w6 t0 t1 t2 t3 t4 t5 := by kernel_rfl
theorem rcheckT_k6 (t0 t1 t2 t3 t4 t5 : Int) : cleanOf Tryz.prog.globals.size (rcheckT_e6 t0 t1 t2 t3 t4 t5) = true := by kernel_rfl
theorem rcheckT_q6 (t0 t1 t2 t3 t4 t5 : Int) : rcheckT_e6 t0 t1 t2 t3 t4 t5 = evFS Tryz.prog x_rcheckT 1000 6 #[.agg #[.int .i64 t0, .int .i64 t1, .int .i64 t2, .int .i64 t3, .int .i64 t4, .int .i64 t5]] (noTabs 6) ⟨[1, 0, 1, 1, 1, 2, 1, 3, 0, 1, 0, 0, 1, 1, 0, 1, 2, 0, 1, 3, 1, 3], True⟩ := by
  delta rcheckT_e6
  exact Eq.refl _
theorem rcheckT_p6 (t0 t1 t2 t3 t4 t5 : Int) (h : rcheckT_r6 t0 t1 t2 t3 t4 t5) (w : World) : Calls Tryz.prog 6 #[.agg #[.int .i64 t0, .int .i64 t1, .int .i64 t2, .int .i64 t3, .int .i64 t4, .int .i64 t5]] w fun en w' => en = .returned (rcheckT_w6 t0 t1 t2 t3 t4 t5) ∧ Below w.heap.size w w' := by
  have hv := rcheckT_v6 t0 t1 t2 t3 t4 t5
  have hc := rcheckT_k6 t0 t1 t2 t3 t4 t5
  have he := rcheckT_q6 t0 t1 t2 t3 t4 t5
  have ho := rcheckT_o6 t0 t1 t2 t3 t4 t5
  generalize rcheckT_e6 t0 t1 t2 t3 t4 t5 = r at *
  exact calls_way he gfol rcheckT_X hv rfl (rcheckT_args t0 t1 t2 t3 t4 t5) hc ho h (bl w)
theorem rcheckT_any (t0 t1 t2 t3 t4 t5 : Int) (hpre : True) (w : World) : Calls Tryz.prog 6 #[.agg #[.int .i64 t0, .int .i64 t1, .int .i64 t2, .int .i64 t3, .int .i64 t4, .int .i64 t5]] w fun en w' => en = .returned (rcheckT_val t0 t1 t2 t3 t4 t5) ∧ Below w.heap.size w w' := by
  rcases Bool.eq_false_or_eq_true (rcheckT_c0 t0 t1 t2 t3 t4 t5) with h0 | h0
  ·
    unfold rcheckT_c0 at h0
    have hp := rcheckT_p1 t0 t1 t2 t3 t4 t5 ⟨⟨⟨⟨⟨⟨⟨⟨⟨⟨⟨⟨⟨⟨⟨⟨⟨⟨⟨trivial, rcheckT_g0⟩, rcheckT_g0⟩, rcheckT_g1⟩, rcheckT_g2⟩, rcheckT_g0⟩, rcheckT_g1⟩, rcheckT_g3⟩, rcheckT_g0⟩, rcheckT_g1⟩, rcheckT_g4⟩, rcheckT_g0⟩, rcheckT_g1⟩, rcheckT_g5⟩, rcheckT_g0⟩, rcheckT_g6⟩, rcheckT_g1⟩, rcheckT_g2⟩, h0⟩, rcheckT_g2⟩ w
    have hv : rcheckT_w1 t0 t1 t2 t3 t4 t5 = (rcheckT_val t0 t1 t2 t3 t4 t5) := by
      clear hp
      unfold rcheckT_w1 rcheckT_val
      first | rfl | ((try simp only [bne_eq_false_iff_eq, bne_iff_ne, ne_eq, beq_iff_eq, beq_eq_false_iff_ne] at *); (try simp only [th6, *, ↓reduceIte]); done)
    exact hv ▸ hp
  ·
    unfold rcheckT_c0 at h0
    rcases Bool.eq_false_or_eq_true (rcheckT_c1 t0 t1 t2 t3 t4 t5) with h1 | h1
    ·
      unfold rcheckT_c1 at h1
      have hp := rcheckT_p5 t0 t1 t2 t3 t4 t5 ⟨⟨⟨⟨⟨⟨⟨⟨⟨⟨⟨⟨⟨⟨⟨⟨⟨⟨⟨⟨⟨⟨trivial, rcheckT_g0⟩, rcheckT_g0⟩, rcheckT_g1⟩, rcheckT_g2⟩, rcheckT_g0⟩, rcheckT_g1⟩, rcheckT_g3⟩, rcheckT_g0⟩, rcheckT_g1⟩, rcheckT_g4⟩, rcheckT_g0⟩, rcheckT_g1⟩, rcheckT_g5⟩, rcheckT_g0⟩, rcheckT_g6⟩, rcheckT_g1⟩, rcheckT_g2⟩, h0⟩, rcheckT_g1⟩, rcheckT_g3⟩, h1⟩, rcheckT_g3⟩ w
      have hv : rcheckT_w5 t0 t1 t2 t3 t4 t5 = (rcheckT_val t0 t1 t2 t3 t4 t5) := by
        clear hp
        unfold rcheckT_w5 rcheckT_val
        first | rfl | ((try simp only [bne_eq_false_iff_eq, bne_iff_ne, ne_eq, beq_iff_eq, beq_eq_false_iff_ne] at *); (try simp only [th6, *, ↓reduceIte]); done)
      exact hv ▸ hp
    ·
      unfold rcheckT_c1 at h1
      rcases Bool.eq_false_or_eq_true (rcheckT_c2 t0 t1 t2 t3 t4 t5) with h2 | h2
      ·
        unfold rcheckT_c2 at h2
        have hp := rcheckT_p3 t0 t1 t2 t3 t4 t5 ⟨⟨⟨⟨⟨⟨⟨⟨⟨⟨⟨⟨⟨⟨⟨⟨⟨⟨⟨⟨⟨⟨⟨⟨⟨trivial, rcheckT_g0⟩, rcheckT_g0⟩, rcheckT_g1⟩, rcheckT_g2⟩, rcheckT_g0⟩, rcheckT_g1⟩, rcheckT_g3⟩, rcheckT_g0⟩, rcheckT_g1⟩, rcheckT_g4⟩, rcheckT_g0⟩, rcheckT_g1⟩, rcheckT_g5⟩, rcheckT_g0⟩, rcheckT_g6⟩, rcheckT_g1⟩, rcheckT_g2⟩, h0⟩, rcheckT_g1⟩, rcheckT_g3⟩, h1⟩, rcheckT_g1⟩, rcheckT_g4⟩, h2⟩, rcheckT_g4⟩ w
        have hv : rcheckT_w3 t0 t1 t2 t3 t4 t5 = (rcheckT_val t0 t1 t2 t3 t4 t5) := by
          clear hp
          unfold rcheckT_w3 rcheckT_val
          first | rfl | ((try simp only [bne_eq_false_iff_eq, bne_iff_ne, ne_eq, beq_iff_eq, beq_eq_false_iff_ne] at *); (try simp only [th6, *, ↓reduceIte]); done)
        exact hv ▸ hp
      ·
        unfold rcheckT_c2 at h2
        rcases Bool.eq_false_or_eq_true (rcheckT_c3 t0 t1 t2 t3 t4 t5) with h3 | h3
        ·
          unfold rcheckT_c3 at h3
          have hp := rcheckT_p6 t0 t1 t2 t3 t4 t5 ⟨⟨⟨⟨⟨⟨⟨⟨⟨⟨⟨⟨⟨⟨⟨⟨⟨⟨⟨⟨⟨⟨⟨⟨⟨⟨⟨⟨trivial, rcheckT_g0⟩, rcheckT_g0⟩, rcheckT_g1⟩, rcheckT_g2⟩, rcheckT_g0⟩, rcheckT_g1⟩, rcheckT_g3⟩, rcheckT_g0⟩, rcheckT_g1⟩, rcheckT_g4⟩, rcheckT_g0⟩, rcheckT_g1⟩, rcheckT_g5⟩, rcheckT_g0⟩, rcheckT_g6⟩, rcheckT_g1⟩, rcheckT_g2⟩, h0⟩, rcheckT_g1⟩, rcheckT_g3⟩, h1⟩, rcheckT_g1⟩, rcheckT_g4⟩, h2⟩, rcheckT_g1⟩, rcheckT_g5⟩, h3⟩, rcheckT_g5⟩ w
          have hv : rcheckT_w6 t0 t1 t2 t3 t4 t5 = (rcheckT_val t0 t1 t2 t3 t4 t5) := by
            clear hp
            unfold rcheckT_w6 rcheckT_val
            first | rfl | ((try simp only [bne_eq_false_iff_eq, bne_iff_ne, ne_eq, beq_iff_eq, beq_eq_false_iff_ne] at *); (try simp only [th6, *, ↓reduceIte]); done)
          exact hv ▸ hp
        ·
          unfold rcheckT_c3 at h3
          rcases Bool.eq_false_or_eq_true (rcheckT_c4 t0 t1 t2 t3 t4 t5) with h4 | h4
          ·
            unfold rcheckT_c4 at h4
            have hp := rcheckT_p4 t0 t1 t2 t3 t4 t5 ⟨⟨⟨⟨⟨⟨⟨⟨⟨⟨⟨⟨⟨⟨⟨⟨⟨⟨⟨⟨⟨⟨⟨⟨⟨⟨⟨⟨⟨⟨⟨trivial, rcheckT_g0⟩, rcheckT_g0⟩, rcheckT_g1⟩, rcheckT_g2⟩, rcheckT_g0⟩, rcheckT_g1⟩, rcheckT_g3⟩, rcheckT_g0⟩, rcheckT_g1⟩, rcheckT_g4⟩, rcheckT_g0⟩, rcheckT_g1⟩, rcheckT_g5⟩, rcheckT_g0⟩, rcheckT_g6⟩, rcheckT_g1⟩, rcheckT_g2⟩, h0⟩, rcheckT_g1⟩, rcheckT_g3⟩, h1⟩, rcheckT_g1⟩, rcheckT_g4⟩, h2⟩, rcheckT_g1⟩, rcheckT_g5⟩, h3⟩, rcheckT_g1⟩, rcheckT_g11⟩, h4⟩, rcheckT_g11⟩ w
            have hv : rcheckT_w4 t0 t1 t2 t3 t4 t5 = (rcheckT_val t0 t1 t2 t3 t4 t5) := by
              clear hp
              unfold rcheckT_w4 rcheckT_val
              first | rfl | ((try simp only [bne_eq_false_iff_eq, bne_iff_ne, ne_eq, beq_iff_eq, beq_eq_false_iff_ne] at *); (try simp only [th6, *, ↓reduceIte]); done)
            exact hv ▸ hp
          ·
            unfold rcheckT_c4 at h4
            rcases Bool.eq_false_or_eq_true (rcheckT_c5 t0 t1 t2 t3 t4 t5) with h5 | h5
            ·
              unfold rcheckT_c5 at h5
              have hp := rcheckT_p0 t0 t1 t2 t3 t4 t5 ⟨⟨⟨⟨⟨⟨⟨⟨⟨⟨⟨⟨⟨⟨⟨⟨⟨⟨⟨⟨⟨⟨⟨⟨⟨⟨⟨⟨⟨⟨⟨⟨⟨⟨trivial, rcheckT_g0⟩, rcheckT_g0⟩, rcheckT_g1⟩, rcheckT_g2⟩, rcheckT_g0⟩, rcheckT_g1⟩, rcheckT_g3⟩, rcheckT_g0⟩, rcheckT_g1⟩, rcheckT_g4⟩, rcheckT_g0⟩, rcheckT_g1⟩, rcheckT_g5⟩, rcheckT_g0⟩, rcheckT_g6⟩, rcheckT_g1⟩, rcheckT_g2⟩, h0⟩, rcheckT_g1⟩, rcheckT_g3⟩, h1⟩, rcheckT_g1⟩, rcheckT_g4⟩, h2⟩, rcheckT_g1⟩, rcheckT_g5⟩, h3⟩, rcheckT_g1⟩, rcheckT_g11⟩, h4⟩, rcheckT_g1⟩, rcheckT_g13⟩, h5⟩, rcheckT_g13⟩ w
              have hv : rcheckT_w0 t0 t1 t2 t3 t4 t5 = (rcheckT_val t0 t1 t2 t3 t4 t5) := by
                clear hp
                unfold rcheckT_w0 rcheckT_val
                first | rfl | ((try simp only [bne_eq_false_iff_eq, bne_iff_ne, ne_eq, beq_iff_eq, beq_eq_false_iff_ne] at *); (try simp only [th6, *, ↓reduceIte]); done)
              exact hv ▸ hp
            ·
              unfold rcheckT_c5 at h5
              have hp := rcheckT_p2 t0 t1 t2 t3 t4 t5 ⟨⟨⟨⟨⟨⟨⟨⟨⟨⟨⟨⟨⟨⟨⟨⟨⟨⟨⟨⟨⟨⟨⟨⟨⟨⟨⟨⟨⟨⟨⟨⟨⟨⟨trivial, rcheckT_g0⟩, rcheckT_g0⟩, rcheckT_g1⟩, rcheckT_g2⟩, rcheckT_g0⟩, rcheckT_g1⟩, rcheckT_g3⟩, rcheckT_g0⟩, rcheckT_g1⟩, rcheckT_g4⟩, rcheckT_g0⟩, rcheckT_g1⟩, rcheckT_g5⟩, rcheckT_g0⟩, rcheckT_g6⟩, rcheckT_g1⟩, rcheckT_g2⟩, h0⟩, rcheckT_g1⟩, rcheckT_g3⟩, h1⟩, rcheckT_g1⟩, rcheckT_g4⟩, h2⟩, rcheckT_g1⟩, rcheckT_g5⟩, h3⟩, rcheckT_g1⟩, rcheckT_g11⟩, h4⟩, rcheckT_g1⟩, rcheckT_g13⟩, h5⟩, rcheckT_g6⟩ w
              have hv : rcheckT_w2 t0 t1 t2 t3 t4 t5 = (rcheckT_val t0 t1 t2 t3 t4 t5) := by
                clear hp
                unfold rcheckT_w2 rcheckT_val
                first | rfl | ((try simp only [bne_eq_false_iff_eq, bne_iff_ne, ne_eq, beq_iff_eq, beq_eq_false_iff_ne] at *); (try simp only [th6, *, ↓reduceIte]); done)
              exact hv ▸ hp
theorem k_rcheckT : ConOk Tryz.prog c_rcheckT := fun ns hl => by
  have hl0 : ns.length = 6 := hl
  clear hl
  obtain ⟨t0, ns0, rfl, hl1⟩ := len_cons hl0
  obtain ⟨t1, ns1, rfl, hl2⟩ := len_cons hl1
  obtain ⟨t2, ns2, rfl, hl3⟩ := len_cons hl2
  obtain ⟨t3, ns3, rfl, hl4⟩ := len_cons hl3
  obtain ⟨t4, ns4, rfl, hl5⟩ := len_cons hl4
  obtain ⟨t5, ns5, rfl, hl6⟩ := len_cons hl5
  obtain rfl := len_nil hl6
  exact ⟨rfl, fun h w => rcheckT_any t0 t1 t2 t3 t4 t5 h w⟩
end Go.Proofs.YtgapibngfpafpaaGreatDoor
end
section
set_option linter.all false
set_option maxRecDepth 1000000
set_option maxHeartbeats 2000000
open Go.RowKit
namespace Go.Proofs.YtgapibngfpafpaaGreatDoor
open Mini

def rencode_val (t0 t1 t2 t3 t4 t5 : Int) : Value := .agg #[.int .u8 (177), .int .u8 (t0 % 256), .int .u8 (t1 / 256 % 256), .int .u8 (t1 % 256), .int .u8 (t2 / 256 % 256), .int .u8 (t2 % 256), .int .u8 (t3 / 256 % 256), .int .u8 (t3 % 256), .int .u8 (t4 / 256 % 256), .int .u8 (t4 % 256), .int .u8 (t5 / 256 % 256), .int .u8 (t5 % 256), .int .u8 ((csT t0 t1 t2 t3 t4 t5) / 16777216 % 256), .int .u8 ((csT t0 t1 t2 t3 t4 t5) / 65536 % 256), .int .u8 ((csT t0 t1 t2 t3 t4 t5) / 256 % 256), .int .u8 ((csT t0 t1 t2 t3 t4 t5) % 256)]
theorem rencode_X : FOkS Tryz.prog x_rencode := noXS_ok
theorem rencode_args (t0 t1 t2 t3 t4 t5 : Int) : (#[.agg #[.int .i64 t0, .int .i64 t1, .int .i64 t2, .int .i64 t3, .int .i64 t4, .int .i64 t5]] : Array Value).toList.all (ground 8) = true := by kernel_rfl
theorem rencode_g0 : (true = true) := by first | rfl | trivial | decide | omega
theorem rencode_g1 : ((0 : Int) = (Int.ofNat 0)) := by first | rfl | trivial | decide | omega
theorem rencode_g2 : ((1 : Int) = (Int.ofNat 1)) := by first | rfl | trivial | decide | omega
theorem rencode_g3 : ((2 : Int) = (Int.ofNat 2)) := by first | rfl | trivial | decide | omega
theorem rencode_g4 : ((3 : Int) = (Int.ofNat 3)) := by first | rfl | trivial | decide | omega
theorem rencode_g5 : (false = false) := by first | rfl | trivial | decide | omega
theorem rencode_g6 : ((4 : Int) = (Int.ofNat 4)) := by first | rfl | trivial | decide | omega
theorem rencode_g7 : ((5 : Int) = (Int.ofNat 5)) := by first | rfl | trivial | decide | omega
theorem rencode_g8 : ((6 : Int) = (Int.ofNat 6)) := by first | rfl | trivial | decide | omega
theorem rencode_g9 : ((7 : Int) = (Int.ofNat 7)) := by first | rfl | trivial | decide | omega
theorem rencode_g10 : ((8 : Int) = (Int.ofNat 8)) := by first | rfl | trivial | decide | omega
theorem rencode_g11 : ((9 : Int) = (Int.ofNat 9)) := by first | rfl | trivial | decide | omega
theorem rencode_g12 : ((10 : Int) = (Int.ofNat 10)) := by first | rfl | trivial | decide | omega
theorem rencode_g13 : ((11 : Int) = (Int.ofNat 11)) := by first | rfl | trivial | decide | omega
theorem rencode_g14 : ((12 : Int) = (Int.ofNat 12)) := by first | rfl | trivial | decide | omega
theorem rencode_g15 : ((13 : Int) = (Int.ofNat 13)) := by first | rfl | trivial | decide | omega
theorem rencode_g16 : ((14 : Int) = (Int.ofNat 14)) := by first | rfl | trivial | decide | omega
theorem rencode_g17 : ((15 : Int) = (Int.ofNat 15)) := by first | rfl | trivial | decide | omega
def rencode_w0 (t0 t1 t2 t3 t4 t5 : Int) : Value := .agg #[.int .u8 (177 : Int), .int .u8 (Go.IntKind.wrap Go.IntKind.u8 t0), .int .u8 (Go.IntKind.wrap Go.IntKind.u8 (Int.fdiv (Go.IntKind.wrap Go.IntKind.u16 t1) (256 : Int))), .int .u8 (Go.IntKind.wrap Go.IntKind.u8 (Go.IntKind.wrap Go.IntKind.u16 t1)), .int .u8 (Go.IntKind.wrap Go.IntKind.u8 (Int.fdiv (Go.IntKind.wrap Go.IntKind.u16 t2) (256 : Int))), .int .u8 (Go.IntKind.wrap Go.IntKind.u8 (Go.IntKind.wrap Go.IntKind.u16 t2)), .int .u8 (Go.IntKind.wrap Go.IntKind.u8 (Int.fdiv (Go.IntKind.wrap Go.IntKind.u16 t3) (256 : Int))), .int .u8 (Go.IntKind.wrap Go.IntKind.u8 (Go.IntKind.wrap Go.IntKind.u16 t3)), .int .u8 (Go.IntKind.wrap Go.IntKind.u8 (Int.fdiv (Go.IntKind.wrap Go.IntKind.u16 t4) (256 : Int))), .int .u8 (Go.IntKind.wrap Go.IntKind.u8 (Go.IntKind.wrap Go.IntKind.u16 t4)), .int .u8 (Go.IntKind.wrap Go.IntKind.u8 (Int.fdiv (Go.IntKind.wrap Go.IntKind.u16 t5) (256 : Int))), .int .u8 (Go.IntKind.wrap Go.IntKind.u8 (Go.IntKind.wrap Go.IntKind.u16 t5)), .int .u8 (Go.IntKind.wrap Go.IntKind.u8 (Int.fdiv (Go.IntKind.wrap Go.IntKind.u32 (Int.tmod (IntKind.i64.wrap ((IntKind.i64.wrap ((263 : Int) * (Int.tmod (IntKind.i64.wrap ((IntKind.i64.wrap ((263 : Int) * (Int.tmod (IntKind.i64.wrap ((IntKind.i64.wrap ((263 : Int) * (Int.tmod (IntKind.i64.wrap ((IntKind.i64.wrap ((263 : Int) * (Int.tmod (IntKind.i64.wrap ((IntKind.i64.wrap ((263 : Int) * (Int.tmod (IntKind.i64.wrap ((IntKind.i64.wrap ((263 : Int) * (Int.tmod (IntKind.i64.wrap ((IntKind.i64.wrap ((263 : Int) * (Int.tmod (IntKind.i64.wrap ((IntKind.i64.wrap ((263 : Int) * (Int.tmod (IntKind.i64.wrap ((IntKind.i64.wrap ((263 : Int) * (Int.tmod (IntKind.i64.wrap ((IntKind.i64.wrap ((263 : Int) * (Int.tmod (IntKind.i64.wrap ((115720 : Int) + (IntKind.i64.wrap (Go.IntKind.wrap Go.IntKind.u8 t0)))) (16777199 : Int)))) + (IntKind.i64.wrap (Go.IntKind.wrap Go.IntKind.u8 (Int.fdiv (Go.IntKind.wrap Go.IntKind.u16 t1) (256 : Int)))))) (16777199 : Int)))) + (IntKind.i64.wrap (Go.IntKind.wrap Go.IntKind.u8 (Go.IntKind.wrap Go.IntKind.u16 t1))))) (16777199 : Int)))) + (IntKind.i64.wrap (Go.IntKind.wrap Go.IntKind.u8 (Int.fdiv (Go.IntKind.wrap Go.IntKind.u16 t2) (256 : Int)))))) (16777199 : Int)))) + (IntKind.i64.wrap (Go.IntKind.wrap Go.IntKind.u8 (Go.IntKind.wrap Go.IntKind.u16 t2))))) (16777199 : Int)))) + (IntKind.i64.wrap (Go.IntKind.wrap Go.IntKind.u8 (Int.fdiv (Go.IntKind.wrap Go.IntKind.u16 t3) (256 : Int)))))) (16777199 : Int)))) + (IntKind.i64.wrap (Go.IntKind.wrap Go.IntKind.u8 (Go.IntKind.wrap Go.IntKind.u16 t3))))) (16777199 : Int)))) + (IntKind.i64.wrap (Go.IntKind.wrap Go.IntKind.u8 (Int.fdiv (Go.IntKind.wrap Go.IntKind.u16 t4) (256 : Int)))))) (16777199 : Int)))) + (IntKind.i64.wrap (Go.IntKind.wrap Go.IntKind.u8 (Go.IntKind.wrap Go.IntKind.u16 t4))))) (16777199 : Int)))) + (IntKind.i64.wrap (Go.IntKind.wrap Go.IntKind.u8 (Int.fdiv (Go.IntKind.wrap Go.IntKind.u16 t5) (256 : Int)))))) (16777199 : Int)))) + (IntKind.i64.wrap (Go.IntKind.wrap Go.IntKind.u8 (Go.IntKind.wrap Go.IntKind.u16 t5))))) (16777199 : Int))) (16777216 : Int))), .int .u8 (Go.IntKind.wrap Go.IntKind.u8 (Int.fdiv (Go.IntKind.wrap Go.IntKind.u32 (Int.tmod (IntKind.i64.wrap ((IntKind.i64.wrap ((263 : Int) * (Int.tmod (IntKind.i64.wrap ((IntKind.i64.wrap ((263 : Int) * (Int.tmod (IntKind.i64.wrap ((IntKind.i64.wrap ((263 : Int) * (Int.tmod (IntKind.i64.wrap ((IntKind.i64.wrap ((263 : Int) * (Int.tmod (IntKind.i64.wrap ((IntKind.i64.wrap ((263 : Int) * (Int.tmod (IntKind.i64.wrap ((IntKind.i64.wrap ((263 : Int) * (Int.tmod (IntKind.i64.wrap ((IntKind.i64.wrap ((263 : Int) * (Int.tmod (IntKind.i64.wrap ((IntKind.i64.wrap ((263 : Int) * (Int.tmod (IntKind.i64.wrap ((IntKind.i64.wrap ((263 : Int) * (Int.tmod (IntKind.i64.wrap ((IntKind.i64.wrap ((263 : Int) * (Int.tmod (IntKind.i64.wrap ((115720 : Int) + (IntKind.i64.wrap (Go.IntKind.wrap Go.IntKind.u8 t0)))) (16777199 : Int)))) + (IntKind.i64.wrap (Go.IntKind.wrap Go.IntKind.u8 (Int.fdiv (Go.IntKind.wrap Go.IntKind.u16 t1) (256 : Int)))))) (16777199 : Int)))) + (IntKind.i64.wrap (Go.IntKind.wrap Go.IntKind.u8 (Go.IntKind.wrap Go.IntKind.u16 t1))))) (16777199 : Int)))) + (IntKind.i64.wrap (Go.IntKind.wrap Go.IntKind.u8 (Int.fdiv (Go.IntKind.wrap Go.IntKind.u16 t2) (256 : Int)))))) (16777199 : Int)))) + (IntKind.i64.wrap (Go.IntKind.wrap Go.IntKind.u8 (Go.IntKind.wrap Go.IntKind.u16 t2))))) (16777199 : Int)))) + (IntKind.i64.wrap (Go.IntKind.wrap Go.IntKind.u8 (Int.fdiv (Go.IntKind.wrap Go.IntKind.u16 t3) (256 : Int)))))) (16777199 : Int)))) + (IntKind.i64.wrap (Go.IntKind.wrap Go.IntKind.u8 (Go.IntKind.wrap Go.IntKind.u16 t3))))) (16777199 : Int)))) + (IntKind.i64.wrap (Go.IntKind.wrap Go.IntKind.u8 (Int.fdiv (Go.IntKind.wrap Go.IntKind.u16 t4) (256 : Int)))))) (16777199 : Int)))) + (IntKind.i64.wrap (Go.IntKind.wrap Go.IntKind.u8 (Go.IntKind.wrap Go.IntKind.u16 t4))))) (16777199 : Int)))) + (IntKind.i64.wrap (Go.IntKind.wrap Go.IntKind.u8 (Int.fdiv (Go.IntKind.wrap Go.IntKind.u16 t5) (256 : Int)))))) (16777199 : Int)))) + (IntKind.i64.wrap (Go.IntKind.wrap Go.IntKind.u8 (Go.IntKind.wrap Go.IntKind.u16 t5))))) (16777199 : Int))) (65536 : Int))), .int .u8 (Go.IntKind.wrap Go.IntKind.u8 (Int.fdiv (Go.IntKind.wrap Go.IntKind.u32 (Int.tmod (IntKind.i64.wrap ((IntKind.i64.wrap ((263 : Int) * (Int.tmod (IntKind.i64.wrap ((IntKind.i64.wrap ((263 : Int) * (Int.tmod (IntKind.i64.wrap ((IntKind.i64.wrap ((263 : Int) * (Int.tmod (IntKind.i64.wrap ((IntKind.i64.wrap ((263 : Int) * (Int.tmod (IntKind.i64.wrap ((IntKind.i64.wrap ((263 : Int) * (Int.tmod (IntKind.i64.wrap ((IntKind.i64.wrap ((263 : Int) * (Int.tmod (IntKind.i64.wrap ((IntKind.i64.wrap ((263 : Int) * (Int.tmod (IntKind.i64.wrap ((IntKind.i64.wrap ((263 : Int) * (Int.tmod (IntKind.i64.wrap ((IntKind.i64.wrap ((263 : Int) * (Int.tmod (IntKind.i64.wrap ((IntKind.i64.wrap ((263 : Int) * (Int.tmod (IntKind.i64.wrap ((115720 : Int) + (IntKind.i64.wrap (Go.IntKind.wrap Go.IntKind.u8 t0)))) (16777199 : Int)))) + (IntKind.i64.wrap (Go.IntKind.wrap Go.IntKind.u8 (Int.fdiv (Go.IntKind.wrap Go.IntKind.u16 t1) (256 : Int)))))) (16777199 : Int)))) + (IntKind.i64.wrap (Go.IntKind.wrap Go.IntKind.u8 (Go.IntKind.wrap Go.IntKind.u16 t1))))) (16777199 : Int)))) + (IntKind.i64.wrap (Go.IntKind.wrap Go.IntKind.u8 (Int.fdiv (Go.IntKind.wrap Go.IntKind.u16 t2) (256 : Int)))))) (16777199 : Int)))) + (IntKind.i64.wrap (Go.IntKind.wrap Go.IntKind.u8 (Go.IntKind.wrap Go.IntKind.u16 t2))))) (16777199 : Int)))) + (IntKind.i64.wrap (Go.IntKind.wrap Go.IntKind.u8 (Int.fdiv (Go.IntKind.wrap Go.IntKind.u16 t3) (256 : Int)))))) (16777199 : Int)))) + (IntKind.i64.wrap (Go.IntKind.wrap Go.IntKind.u8 (Go.IntKind.wrap Go.IntKind.u16 t3))))) (16777199 : Int)))) + (IntKind.i64.wrap (Go.IntKind.wrap Go.IntKind.u8 (Int.fdiv (Go.IntKind.wrap Go.IntKind.u16 t4) (256 : Int)))))) (16777199 : Int)))) + (IntKind.i64.wrap (Go.IntKind.wrap Go.IntKind.u8 (Go.IntKind.wrap Go.IntKind.u16 t4))))) (16777199 : Int)))) + (IntKind.i64.wrap (Go.IntKind.wrap Go.IntKind.u8 (Int.fdiv (Go.IntKind.wrap Go.IntKind.u16 t5) (256 : Int)))))) (16777199 : Int)))) + (IntKind.i64.wrap (Go.IntKind.wrap Go.IntKind.u8 (Go.IntKind.wrap Go.IntKind.u16 t5))))) (16777199 : Int))) (256 : Int))), .int .u8 (Go.IntKind.wrap Go.IntKind.u8 (Go.IntKind.wrap Go.IntKind.u32 (Int.tmod (IntKind.i64.wrap ((IntKind.i64.wrap ((263 : Int) * (Int.tmod (IntKind.i64.wrap ((IntKind.i64.wrap ((263 : Int) * (Int.tmod (IntKind.i64.wrap ((IntKind.i64.wrap ((263 : Int) * (Int.tmod (IntKind.i64.wrap ((IntKind.i64.wrap ((263 : Int) * (Int.tmod (IntKind.i64.wrap ((IntKind.i64.wrap ((263 : Int) * (Int.tmod (IntKind.i64.wrap ((IntKind.i64.wrap ((263 : Int) * (Int.tmod (IntKind.i64.wrap ((IntKind.i64.wrap ((263 : Int) * (Int.tmod (IntKind.i64.wrap ((IntKind.i64.wrap ((263 : Int) * (Int.tmod (IntKind.i64.wrap ((IntKind.i64.wrap ((263 : Int) * (Int.tmod (IntKind.i64.wrap ((IntKind.i64.wrap ((263 : Int) * (Int.tmod (IntKind.i64.wrap ((115720 : Int) + (IntKind.i64.wrap (Go.IntKind.wrap Go.IntKind.u8 t0)))) (16777199 : Int)))) + (IntKind.i64.wrap (Go.IntKind.wrap Go.IntKind.u8 (Int.fdiv (Go.IntKind.wrap Go.IntKind.u16 t1) (256 : Int)))))) (16777199 : Int)))) + (IntKind.i64.wrap (Go.IntKind.wrap Go.IntKind.u8 (Go.IntKind.wrap Go.IntKind.u16 t1))))) (16777199 : Int)))) + (IntKind.i64.wrap (Go.IntKind.wrap Go.IntKind.u8 (Int.fdiv (Go.IntKind.wrap Go.IntKind.u16 t2) (256 : Int)))))) (16777199 : Int)))) + (IntKind.i64.wrap (Go.IntKind.wrap Go.IntKind.u8 (Go.IntKind.wrap Go.IntKind.u16 t2))))) (16777199 : Int)))) + (IntKind.i64.wrap (Go.IntKind.wrap Go.IntKind.u8 (Int.fdiv (Go.IntKind.wrap Go.IntKind.u16 t3) (256 : Int)))))) (16777199 : Int)))) + (IntKind.i64.wrap (Go.IntKind.wrap Go.IntKind.u8 (Go.IntKind.wrap Go.IntKind.u16 t3))))) (16777199 : Int)))) + (IntKind.i64.wrap (Go.IntKind.wrap Go.IntKind.u8 (Int.fdiv (Go.IntKind.wrap Go.IntKind.u16 t4) (256 : Int)))))) (16777199 : Int)))) + (IntKind.i64.wrap (Go.IntKind.wrap Go.IntKind.u8 (Go.IntKind.wrap Go.IntKind.u16 t4))))) (16777199 : Int)))) + (IntKind.i64.wrap (Go.IntKind.wrap Go.IntKind.u8 (Int.fdiv (Go.IntKind.wrap Go.IntKind.u16 t5) (256 : Int)))))) (16777199 : Int)))) + (IntKind.i64.wrap (Go.IntKind.wrap Go.IntKind.u8 (Go.IntKind.wrap Go.IntKind.u16 t5))))) (16777199 : Int))))]
def rencode_r0 (t0 t1 t2 t3 t4 t5 : Int) : Prop := (((((((((((((((((((((((((((((((((((((((((((((((((((((((((((((((((((((((((((((((((((True ∧ ((true = true))) ∧ (((0 : Int) = (Int.ofNat 0)))) ∧ ((true = true))) ∧ (((1 : Int) = (Int.ofNat 1)))) ∧ ((true = true))) ∧ (((2 : Int) = (Int.ofNat 2)))) ∧ ((true = true))) ∧ (((3 : Int) = (Int.ofNat 3)))) ∧ ((false = false))) ∧ ((true = true))) ∧ (((0 : Int) = (Int.ofNat 0)))) ∧ ((true = true))) ∧ (((1 : Int) = (Int.ofNat 1)))) ∧ ((true = true))) ∧ (((2 : Int) = (Int.ofNat 2)))) ∧ ((true = true))) ∧ (((3 : Int) = (Int.ofNat 3)))) ∧ ((true = true))) ∧ (((4 : Int) = (Int.ofNat 4)))) ∧ ((true = true))) ∧ (((5 : Int) = (Int.ofNat 5)))) ∧ ((true = true))) ∧ (((6 : Int) = (Int.ofNat 6)))) ∧ ((true = true))) ∧ (((7 : Int) = (Int.ofNat 7)))) ∧ ((true = true))) ∧ (((8 : Int) = (Int.ofNat 8)))) ∧ ((true = true))) ∧ (((9 : Int) = (Int.ofNat 9)))) ∧ ((true = true))) ∧ (((10 : Int) = (Int.ofNat 10)))) ∧ ((true = true))) ∧ (((11 : Int) = (Int.ofNat 11)))) ∧ ((false = false))) ∧ ((true = true))) ∧ (((0 : Int) = (Int.ofNat 0)))) ∧ (((0 : Int) = (Int.ofNat 0)))) ∧ ((true = true))) ∧ (((1 : Int) = (Int.ofNat 1)))) ∧ (((1 : Int) = (Int.ofNat 1)))) ∧ ((true = true))) ∧ (((2 : Int) = (Int.ofNat 2)))) ∧ (((2 : Int) = (Int.ofNat 2)))) ∧ ((true = true))) ∧ (((3 : Int) = (Int.ofNat 3)))) ∧ (((3 : Int) = (Int.ofNat 3)))) ∧ ((true = true))) ∧ (((4 : Int) = (Int.ofNat 4)))) ∧ (((4 : Int) = (Int.ofNat 4)))) ∧ ((true = true))) ∧ (((5 : Int) = (Int.ofNat 5)))) ∧ (((5 : Int) = (Int.ofNat 5)))) ∧ ((true = true))) ∧ (((6 : Int) = (Int.ofNat 6)))) ∧ (((6 : Int) = (Int.ofNat 6)))) ∧ ((true = true))) ∧ (((7 : Int) = (Int.ofNat 7)))) ∧ (((7 : Int) = (Int.ofNat 7)))) ∧ ((true = true))) ∧ (((8 : Int) = (Int.ofNat 8)))) ∧ (((8 : Int) = (Int.ofNat 8)))) ∧ ((true = true))) ∧ (((9 : Int) = (Int.ofNat 9)))) ∧ (((9 : Int) = (Int.ofNat 9)))) ∧ ((true = true))) ∧ (((10 : Int) = (Int.ofNat 10)))) ∧ (((10 : Int) = (Int.ofNat 10)))) ∧ ((true = true))) ∧ (((11 : Int) = (Int.ofNat 11)))) ∧ (((11 : Int) = (Int.ofNat 11)))) ∧ ((true = true))) ∧ (((12 : Int) = (Int.ofNat 12)))) ∧ (((12 : Int) = (Int.ofNat 12)))) ∧ ((true = true))) ∧ (((13 : Int) = (Int.ofNat 13)))) ∧ (((13 : Int) = (Int.ofNat 13)))) ∧ ((true = true))) ∧ (((14 : Int) = (Int.ofNat 14)))) ∧ (((14 : Int) = (Int.ofNat 14)))) ∧ ((true = true))) ∧ (((15 : Int) = (Int.ofNat 15)))) ∧ (((15 : Int) = (Int.ofNat 15)))) ∧ ((false = false)))
theorem rencode_o0 (t0 t1 t2 t3 t4 t5 : Int) : obOf (rencode_e0 t0 t1 t2 t3 t4 t5) = rencode_r0 t0 t1 t2 t3 t4 t5 := by kernel_rfl
theorem rencode_v0 (t0 t1 t2 t3 t4 t5 : Int) : resOf (rencode_e0 t0 t1 t2 t3 t4 t5) = rencode_w0 t0 t1 t2 t3 t4 t5 := by kernel_rfl
theorem rencode_k0 (t0 t1 t2 t3 t4 t5 : Int) : cleanOf Tryz.prog.globals.size (rencode_e0 t0 t1 t2 t3 t4 t5) = true := by kernel_rfl
theorem rencode_q0 (t0 t1 t2 t3 t4 t5 : Int) : rencode_e0 t0 t1 t2 t3 t4 t5 = evFS Tryz.prog x_rencode 1000 7 #[.agg #[.int .i64 t0, .int .i64 t1, .int .i64 t2, .int .i64 t3, .int .i64 t4, .int .i64 t5]] (noTabs 6) ⟨[1, 0, 1, 1, 1, 2, 1, 3, 0, 1, 0, 1, 1, 1, 2, 1, 3, 1, 4, 1, 5, 1, 6, 1, 7, 1, 8, 1, 9, 1, 10, 1, 11, 0, 1, 0, 0, 1, 1, 1, 1, 2, 2, 1, 3, 3, 1, 4, 4, 1, 5, 5, 1, 6, 6, 1, 7, 7, 1, 8, 8, 1, 9, 9, 1, 10, 10, 1, 11, 11, 1, 12, 12, 1, 13, 13, 1, 14, 14, 1, 15, 15, 0], True⟩ := by
  delta rencode_e0
  exact Eq.refl _
theorem rencode_p0 (t0 t1 t2 t3 t4 t5 : Int) (h : rencode_r0 t0 t1 t2 t3 t4 t5) (w : World) : Calls Tryz.prog 7 #[.agg #[.int .i64 t0, .int .i64 t1, .int .i64 t2, .int .i64 t3, .int .i64 t4, .int .i64 t5]] w fun en w' => en = .returned (rencode_w0 t0 t1 t2 t3 t4 t5) ∧ Below w.heap.size w w' := by
  have hv := rencode_v0 t0 t1 t2 t3 t4 t5
  have hc := rencode_k0 t0 t1 t2 t3 t4 t5
  have he := rencode_q0 t0 t1 t2 t3 t4 t5
  have ho := rencode_o0 t0 t1 t2 t3 t4 t5
  generalize rencode_e0 t0 t1 t2 t3 t4 t5 = r at *
  exact calls_way he gfol rencode_X hv rfl (rencode_args t0 t1 t2 t3 t4 t5) hc ho h (bl w)
theorem rencode_any (t0 t1 t2 t3 t4 t5 : Int) (hpre : True) (w : World) : Calls Tryz.prog 7 #[.agg #[.int .i64 t0, .int .i64 t1, .int .i64 t2, .int .i64 t3, .int .i64 t4, .int .i64 t5]] w fun en w' => en = .returned (rencode_val t0 t1 t2 t3 t4 t5) ∧ Below w.heap.size w w' := by
  have hp := rencode_p0 t0 t1 t2 t3 t4 t5 ⟨⟨⟨⟨⟨⟨⟨⟨⟨⟨⟨⟨⟨⟨⟨⟨⟨⟨⟨⟨⟨⟨⟨⟨⟨⟨⟨⟨⟨⟨⟨⟨⟨⟨⟨⟨⟨⟨⟨⟨⟨⟨⟨⟨⟨⟨⟨⟨⟨⟨⟨⟨⟨⟨⟨⟨⟨⟨⟨⟨⟨⟨⟨⟨⟨⟨⟨⟨⟨⟨⟨⟨⟨⟨⟨⟨⟨⟨⟨⟨⟨⟨⟨trivial, rencode_g0⟩, rencode_g1⟩, rencode_g0⟩, rencode_g2⟩, rencode_g0⟩, rencode_g3⟩, rencode_g0⟩, rencode_g4⟩, rencode_g5⟩, rencode_g0⟩, rencode_g1⟩, rencode_g0⟩, rencode_g2⟩, rencode_g0⟩, rencode_g3⟩, rencode_g0⟩, rencode_g4⟩, rencode_g0⟩, rencode_g6⟩, rencode_g0⟩, rencode_g7⟩, rencode_g0⟩, rencode_g8⟩, rencode_g0⟩, rencode_g9⟩, rencode_g0⟩, rencode_g10⟩, rencode_g0⟩, rencode_g11⟩, rencode_g0⟩, rencode_g12⟩, rencode_g0⟩, rencode_g13⟩, rencode_g5⟩, rencode_g0⟩, rencode_g1⟩, rencode_g1⟩, rencode_g0⟩, rencode_g2⟩, rencode_g2⟩, rencode_g0⟩, rencode_g3⟩, rencode_g3⟩, rencode_g0⟩, rencode_g4⟩, rencode_g4⟩, rencode_g0⟩, rencode_g6⟩, rencode_g6⟩, rencode_g0⟩, rencode_g7⟩, rencode_g7⟩, rencode_g0⟩, rencode_g8⟩, rencode_g8⟩, rencode_g0⟩, rencode_g9⟩, rencode_g9⟩, rencode_g0⟩, rencode_g10⟩, rencode_g10⟩, rencode_g0⟩, rencode_g11⟩, rencode_g11⟩, rencode_g0⟩, rencode_g12⟩, rencode_g12⟩, rencode_g0⟩, rencode_g13⟩, rencode_g13⟩, rencode_g0⟩, rencode_g14⟩, rencode_g14⟩, rencode_g0⟩, rencode_g15⟩, rencode_g15⟩, rencode_g0⟩, rencode_g16⟩, rencode_g16⟩, rencode_g0⟩, rencode_g17⟩, rencode_g17⟩, rencode_g5⟩ w
  have hv : rencode_w0 t0 t1 t2 t3 t4 t5 = (rencode_val t0 t1 t2 t3 t4 t5) := by
    clear hp
    unfold rencode_w0 rencode_val
    (try simp only [w8, w16, f1, f8, f16, f24, m1, m2])
    simp (disch := first | exact inS_st | exact inS_csT | exact inB_mod | (unfold inS; omega)) only [rs2, rs, w32, csT_eq]
  exact hv ▸ hp
theorem k_rencode : ConOk Tryz.prog c_rencode := fun ns hl => by
  have hl0 : ns.length = 6 := hl
  clear hl
  obtain ⟨t0, ns0, rfl, hl1⟩ := len_cons hl0
  obtain ⟨t1, ns1, rfl, hl2⟩ := len_cons hl1
  obtain ⟨t2, ns2, rfl, hl3⟩ := len_cons hl2
  obtain ⟨t3, ns3, rfl, hl4⟩ := len_cons hl3
  obtain ⟨t4, ns4, rfl, hl5⟩ := len_cons hl4
  obtain ⟨t5, ns5, rfl, hl6⟩ := len_cons hl5
  obtain rfl := len_nil hl6
  exact ⟨rfl, fun h w => rencode_any t0 t1 t2 t3 t4 t5 h w⟩
end Go.Proofs.YtgapibngfpafpaaGreatDoor
end
section
set_option linter.all false
set_option maxRecDepth 1000000
set_option maxHeartbeats 2000000
open Go.RowKit
namespace Go.Proofs.YtgapibngfpafpaaGreatDoor
open Mini

def rdecode_val (y0 y1 y2 y3 y4 y5 y6 y7 y8 y9 y10 y11 y12 y13 y14 y15 : Int) : Value := .tuple #[.agg #[.int .i64 (cz (fe y0 (csY y0 y1 y2 y3 y4 y5 y6 y7 y8 y9 y10 y11) (((y12 * 256 + y13) * 256 + y14) * 256 + y15)) (y1)), .int .i64 (cz (fe y0 (csY y0 y1 y2 y3 y4 y5 y6 y7 y8 y9 y10 y11) (((y12 * 256 + y13) * 256 + y14) * 256 + y15)) (y2 * 256 + y3)), .int .i64 (cz (fe y0 (csY y0 y1 y2 y3 y4 y5 y6 y7 y8 y9 y10 y11) (((y12 * 256 + y13) * 256 + y14) * 256 + y15)) (sg (y4 * 256 + y5))), .int .i64 (cz (fe y0 (csY y0 y1 y2 y3 y4 y5 y6 y7 y8 y9 y10 y11) (((y12 * 256 + y13) * 256 + y14) * 256 + y15)) (sg (y6 * 256 + y7))), .int .i64 (cz (fe y0 (csY y0 y1 y2 y3 y4 y5 y6 y7 y8 y9 y10 y11) (((y12 * 256 + y13) * 256 + y14) * 256 + y15)) (sg (y8 * 256 + y9))), .int .i64 (cz (fe y0 (csY y0 y1 y2 y3 y4 y5 y6 y7 y8 y9 y10 y11) (((y12 * 256 + y13) * 256 + y14) * 256 + y15)) (sg (y10 * 256 + y11)))], .int .i64 (fe y0 (csY y0 y1 y2 y3 y4 y5 y6 y7 y8 y9 y10 y11) (((y12 * 256 + y13) * 256 + y14) * 256 + y15))]
theorem rdecode_X : FOkS Tryz.prog x_rdecode := noXS_ok
theorem rdecode_args (y0 y1 y2 y3 y4 y5 y6 y7 y8 y9 y10 y11 y12 y13 y14 y15 : Int) : (#[.agg #[.int .u8 y0, .int .u8 y1, .int .u8 y2, .int .u8 y3, .int .u8 y4, .int .u8 y5, .int .u8 y6, .int .u8 y7, .int .u8 y8, .int .u8 y9, .int .u8 y10, .int .u8 y11, .int .u8 y12, .int .u8 y13, .int .u8 y14, .int .u8 y15]] : Array Value).toList.all (ground 8) = true := by kernel_rfl
theorem rdecode_g0 : ((0 : Int) = (Int.ofNat 0)) := by first | rfl | trivial | decide | omega
def rdecode_c0 (y0 y1 y2 y3 y4 y5 y6 y7 y8 y9 y10 y11 y12 y13 y14 y15 : Int) : Bool := (y0 != (177 : Int))
theorem rdecode_g2 : (true = true) := by first | rfl | trivial | decide | omega
theorem rdecode_g3 : ((1 : Int) = (Int.ofNat 1)) := by first | rfl | trivial | decide | omega
theorem rdecode_g4 : ((2 : Int) = (Int.ofNat 2)) := by first | rfl | trivial | decide | omega
theorem rdecode_g5 : ((3 : Int) = (Int.ofNat 3)) := by first | rfl | trivial | decide | omega
theorem rdecode_g6 : ((4 : Int) = (Int.ofNat 4)) := by first | rfl | trivial | decide | omega
theorem rdecode_g7 : ((5 : Int) = (Int.ofNat 5)) := by first | rfl | trivial | decide | omega
theorem rdecode_g8 : ((6 : Int) = (Int.ofNat 6)) := by first | rfl | trivial | decide | omega
theorem rdecode_g9 : ((7 : Int) = (Int.ofNat 7)) := by first | rfl | trivial | decide | omega
theorem rdecode_g10 : ((8 : Int) = (Int.ofNat 8)) := by first | rfl | trivial | decide | omega
theorem rdecode_g11 : ((9 : Int) = (Int.ofNat 9)) := by first | rfl | trivial | decide | omega
theorem rdecode_g12 : ((10 : Int) = (Int.ofNat 10)) := by first | rfl | trivial | decide | omega
theorem rdecode_g13 : ((11 : Int) = (Int.ofNat 11)) := by first | rfl | trivial | decide | omega
theorem rdecode_g14 : (false = false) := by first | rfl | trivial | decide | omega
theorem rdecode_g15 : ((12 : Int) = (Int.ofNat 12)) := by first | rfl | trivial | decide | omega
theorem rdecode_g16 : ((13 : Int) = (Int.ofNat 13)) := by first | rfl | trivial | decide | omega
theorem rdecode_g17 : ((14 : Int) = (Int.ofNat 14)) := by first | rfl | trivial | decide | omega
theorem rdecode_g18 : ((15 : Int) = (Int.ofNat 15)) := by first | rfl | trivial | decide | omega
def rdecode_c1 (y0 y1 y2 y3 y4 y5 y6 y7 y8 y9 y10 y11 y12 y13 y14 y15 : Int) : Bool := ((Int.tmod (IntKind.i64.wrap ((IntKind.i64.wrap ((263 : Int) * (Int.tmod (IntKind.i64.wrap ((IntKind.i64.wrap ((263 : Int) * (Int.tmod (IntKind.i64.wrap ((IntKind.i64.wrap ((263 : Int) * (Int.tmod (IntKind.i64.wrap ((IntKind.i64.wrap ((263 : Int) * (Int.tmod (IntKind.i64.wrap ((IntKind.i64.wrap ((263 : Int) * (Int.tmod (IntKind.i64.wrap ((IntKind.i64.wrap ((263 : Int) * (Int.tmod (IntKind.i64.wrap ((IntKind.i64.wrap ((263 : Int) * (Int.tmod (IntKind.i64.wrap ((IntKind.i64.wrap ((263 : Int) * (Int.tmod (IntKind.i64.wrap ((IntKind.i64.wrap ((263 : Int) * (Int.tmod (IntKind.i64.wrap ((IntKind.i64.wrap ((263 : Int) * (Int.tmod (IntKind.i64.wrap ((IntKind.i64.wrap ((263 : Int) * (Int.tmod (IntKind.i64.wrap ((263 : Int) + (IntKind.i64.wrap y0))) (16777199 : Int)))) + (IntKind.i64.wrap y1))) (16777199 : Int)))) + (IntKind.i64.wrap y2))) (16777199 : Int)))) + (IntKind.i64.wrap y3))) (16777199 : Int)))) + (IntKind.i64.wrap y4))) (16777199 : Int)))) + (IntKind.i64.wrap y5))) (16777199 : Int)))) + (IntKind.i64.wrap y6))) (16777199 : Int)))) + (IntKind.i64.wrap y7))) (16777199 : Int)))) + (IntKind.i64.wrap y8))) (16777199 : Int)))) + (IntKind.i64.wrap y9))) (16777199 : Int)))) + (IntKind.i64.wrap y10))) (16777199 : Int)))) + (IntKind.i64.wrap y11))) (16777199 : Int)) != (IntKind.i64.wrap ((IntKind.i64.wrap ((256 : Int) * (IntKind.i64.wrap ((IntKind.i64.wrap ((256 : Int) * (IntKind.i64.wrap ((IntKind.i64.wrap ((256 : Int) * (IntKind.i64.wrap ((0 : Int) + (IntKind.i64.wrap y12))))) + (IntKind.i64.wrap y13))))) + (IntKind.i64.wrap y14))))) + (IntKind.i64.wrap y15))))
def rdecode_w0 (y0 y1 y2 y3 y4 y5 y6 y7 y8 y9 y10 y11 y12 y13 y14 y15 : Int) : Value := .tuple #[.agg #[.int .i64 (IntKind.i64.wrap y1), .int .i64 (IntKind.i64.wrap ((IntKind.i64.wrap ((256 : Int) * (IntKind.i64.wrap ((0 : Int) + (IntKind.i64.wrap y2))))) + (IntKind.i64.wrap y3))), .int .i64 (IntKind.i64.wrap (Go.IntKind.wrap Go.IntKind.i16 (IntKind.i64.wrap ((IntKind.i64.wrap ((256 : Int) * (IntKind.i64.wrap ((0 : Int) + (IntKind.i64.wrap y4))))) + (IntKind.i64.wrap y5))))), .int .i64 (IntKind.i64.wrap (Go.IntKind.wrap Go.IntKind.i16 (IntKind.i64.wrap ((IntKind.i64.wrap ((256 : Int) * (IntKind.i64.wrap ((0 : Int) + (IntKind.i64.wrap y6))))) + (IntKind.i64.wrap y7))))), .int .i64 (IntKind.i64.wrap (Go.IntKind.wrap Go.IntKind.i16 (IntKind.i64.wrap ((IntKind.i64.wrap ((256 : Int) * (IntKind.i64.wrap ((0 : Int) + (IntKind.i64.wrap y8))))) + (IntKind.i64.wrap y9))))), .int .i64 (IntKind.i64.wrap (Go.IntKind.wrap Go.IntKind.i16 (IntKind.i64.wrap ((IntKind.i64.wrap ((256 : Int) * (IntKind.i64.wrap ((0 : Int) + (IntKind.i64.wrap y10))))) + (IntKind.i64.wrap y11)))))], .int .i64 (0 : Int)]
def rdecode_r0 (y0 y1 y2 y3 y4 y5 y6 y7 y8 y9 y10 y11 y12 y13 y14 y15 : Int) : Prop := ((((((((((((((((((((((((((((((((((((((((((((((((((((((((((((((((((((((((True ∧ (((0 : Int) = (Int.ofNat 0)))) ∧ (rdecode_c0 y0 y1 y2 y3 y4 y5 y6 y7 y8 y9 y10 y11 y12 y13 y14 y15 = false)) ∧ ((true = true))) ∧ (((0 : Int) = (Int.ofNat 0)))) ∧ ((true = true))) ∧ (((1 : Int) = (Int.ofNat 1)))) ∧ ((true = true))) ∧ (((2 : Int) = (Int.ofNat 2)))) ∧ ((true = true))) ∧ (((3 : Int) = (Int.ofNat 3)))) ∧ ((true = true))) ∧ (((4 : Int) = (Int.ofNat 4)))) ∧ ((true = true))) ∧ (((5 : Int) = (Int.ofNat 5)))) ∧ ((true = true))) ∧ (((6 : Int) = (Int.ofNat 6)))) ∧ ((true = true))) ∧ (((7 : Int) = (Int.ofNat 7)))) ∧ ((true = true))) ∧ (((8 : Int) = (Int.ofNat 8)))) ∧ ((true = true))) ∧ (((9 : Int) = (Int.ofNat 9)))) ∧ ((true = true))) ∧ (((10 : Int) = (Int.ofNat 10)))) ∧ ((true = true))) ∧ (((11 : Int) = (Int.ofNat 11)))) ∧ ((false = false))) ∧ ((true = true))) ∧ (((12 : Int) = (Int.ofNat 12)))) ∧ ((true = true))) ∧ (((13 : Int) = (Int.ofNat 13)))) ∧ ((true = true))) ∧ (((14 : Int) = (Int.ofNat 14)))) ∧ ((true = true))) ∧ (((15 : Int) = (Int.ofNat 15)))) ∧ ((false = false))) ∧ (rdecode_c1 y0 y1 y2 y3 y4 y5 y6 y7 y8 y9 y10 y11 y12 y13 y14 y15 = false)) ∧ (((1 : Int) = (Int.ofNat 1)))) ∧ ((true = true))) ∧ (((2 : Int) = (Int.ofNat 2)))) ∧ ((true = true))) ∧ (((3 : Int) = (Int.ofNat 3)))) ∧ ((false = false))) ∧ ((true = true))) ∧ ((true = true))) ∧ (((4 : Int) = (Int.ofNat 4)))) ∧ ((true = true))) ∧ (((5 : Int) = (Int.ofNat 5)))) ∧ ((false = false))) ∧ (((0 : Int) = (Int.ofNat 0)))) ∧ ((true = true))) ∧ ((true = true))) ∧ (((6 : Int) = (Int.ofNat 6)))) ∧ ((true = true))) ∧ (((7 : Int) = (Int.ofNat 7)))) ∧ ((false = false))) ∧ (((1 : Int) = (Int.ofNat 1)))) ∧ ((true = true))) ∧ ((true = true))) ∧ (((8 : Int) = (Int.ofNat 8)))) ∧ ((true = true))) ∧ (((9 : Int) = (Int.ofNat 9)))) ∧ ((false = false))) ∧ (((2 : Int) = (Int.ofNat 2)))) ∧ ((true = true))) ∧ ((true = true))) ∧ (((10 : Int) = (Int.ofNat 10)))) ∧ ((true = true))) ∧ (((11 : Int) = (Int.ofNat 11)))) ∧ ((false = false))) ∧ (((3 : Int) = (Int.ofNat 3)))) ∧ ((false = false)))
theorem rdecode_o0 (y0 y1 y2 y3 y4 y5 y6 y7 y8 y9 y10 y11 y12 y13 y14 y15 : Int) : obOf (rdecode_e0 y0 y1 y2 y3 y4 y5 y6 y7 y8 y9 y10 y11 y12 y13 y14 y15) = rdecode_r0 y0 y1 y2 y3 y4 y5 y6 y7 y8 y9 y10 y11 y12 y13 y14 y15 := by kernel_rfl
theorem rdecode_v0 (y0 y1 y2 y3 y4 y5 y6 y7 y8 y9 y10 y11 y12 y13 y14 y15 : Int) : resOf (rdecode_e0 y0 y1 y2 y3 y4 y5 y6 y7 y8 y9 y10 y11 y12 y13 y14 y15) = rdecode_w0 y0 y1 y2 y3 y4 y5 y6 y7 y8 y9 y10 y11 y12 y13 y14 y15 := by kernel_rfl
theorem rdecode_k0 (y0 y1 y2 y3 y4 y5 y6 y7 y8 y9 y10 y11 y12 y13 y14 y15 : Int) : cleanOf Tryz.prog.globals.size (rdecode_e0 y0 y1 y2 y3 y4 y5 y6 y7 y8 y9 y10 y11 y12 y13 y14 y15) = true := by kernel_rfl
theorem rdecode_q0 (y0 y1 y2 y3 y4 y5 y6 y7 y8 y9 y10 y11 y12 y13 y14 y15 : Int) : rdecode_e0 y0 y1 y2 y3 y4 y5 y6 y7 y8 y9 y10 y11 y12 y13 y14 y15 = evFS Tryz.prog x_rdecode 1000 8 #[.agg #[.int .u8 y0, .int .u8 y1, .int .u8 y2, .int .u8 y3, .int .u8 y4, .int .u8 y5, .int .u8 y6, .int .u8 y7, .int .u8 y8, .int .u8 y9, .int .u8 y10, .int .u8 y11, .int .u8 y12, .int .u8 y13, .int .u8 y14, .int .u8 y15]] (noTabs 6) ⟨[0, 0, 1, 0, 1, 1, 1, 2, 1, 3, 1, 4, 1, 5, 1, 6, 1, 7, 1, 8, 1, 9, 1, 10, 1, 11, 0, 1, 12, 1, 13, 1, 14, 1, 15, 0, 0, 1, 1, 2, 1, 3, 0, 1, 1, 4, 1, 5, 0, 0, 1, 1, 6, 1, 7, 0, 1, 1, 1, 8, 1, 9, 0, 2, 1, 1, 10, 1, 11, 0, 3, 0], True⟩ := by
  delta rdecode_e0
  exact Eq.refl _
theorem rdecode_p0 (y0 y1 y2 y3 y4 y5 y6 y7 y8 y9 y10 y11 y12 y13 y14 y15 : Int) (h : rdecode_r0 y0 y1 y2 y3 y4 y5 y6 y7 y8 y9 y10 y11 y12 y13 y14 y15) (w : World) : Calls Tryz.prog 8 #[.agg #[.int .u8 y0, .int .u8 y1, .int .u8 y2, .int .u8 y3, .int .u8 y4, .int .u8 y5, .int .u8 y6, .int .u8 y7, .int .u8 y8, .int .u8 y9, .int .u8 y10, .int .u8 y11, .int .u8 y12, .int .u8 y13, .int .u8 y14, .int .u8 y15]] w fun en w' => en = .returned (rdecode_w0 y0 y1 y2 y3 y4 y5 y6 y7 y8 y9 y10 y11 y12 y13 y14 y15) ∧ Below w.heap.size w w' := by
  have hv := rdecode_v0 y0 y1 y2 y3 y4 y5 y6 y7 y8 y9 y10 y11 y12 y13 y14 y15
  have hc := rdecode_k0 y0 y1 y2 y3 y4 y5 y6 y7 y8 y9 y10 y11 y12 y13 y14 y15
  have he := rdecode_q0 y0 y1 y2 y3 y4 y5 y6 y7 y8 y9 y10 y11 y12 y13 y14 y15
  have ho := rdecode_o0 y0 y1 y2 y3 y4 y5 y6 y7 y8 y9 y10 y11 y12 y13 y14 y15
  generalize rdecode_e0 y0 y1 y2 y3 y4 y5 y6 y7 y8 y9 y10 y11 y12 y13 y14 y15 = r at *
  exact calls_way he gfol rdecode_X hv rfl (rdecode_args y0 y1 y2 y3 y4 y5 y6 y7 y8 y9 y10 y11 y12 y13 y14 y15) hc ho h (bl w)
def rdecode_w1 (y0 y1 y2 y3 y4 y5 y6 y7 y8 y9 y10 y11 y12 y13 y14 y15 : Int) : Value := .tuple #[.agg #[.int .i64 (0 : Int), .int .i64 (0 : Int), .int .i64 (0 : Int), .int .i64 (0 : Int), .int .i64 (0 : Int), .int .i64 (0 : Int)], .int .i64 (27 : Int)]
def rdecode_r1 (y0 y1 y2 y3 y4 y5 y6 y7 y8 y9 y10 y11 y12 y13 y14 y15 : Int) : Prop := (((((((((((((((((((((((((((((((((((((True ∧ (((0 : Int) = (Int.ofNat 0)))) ∧ (rdecode_c0 y0 y1 y2 y3 y4 y5 y6 y7 y8 y9 y10 y11 y12 y13 y14 y15 = false)) ∧ ((true = true))) ∧ (((0 : Int) = (Int.ofNat 0)))) ∧ ((true = true))) ∧ (((1 : Int) = (Int.ofNat 1)))) ∧ ((true = true))) ∧ (((2 : Int) = (Int.ofNat 2)))) ∧ ((true = true))) ∧ (((3 : Int) = (Int.ofNat 3)))) ∧ ((true = true))) ∧ (((4 : Int) = (Int.ofNat 4)))) ∧ ((true = true))) ∧ (((5 : Int) = (Int.ofNat 5)))) ∧ ((true = true))) ∧ (((6 : Int) = (Int.ofNat 6)))) ∧ ((true = true))) ∧ (((7 : Int) = (Int.ofNat 7)))) ∧ ((true = true))) ∧ (((8 : Int) = (Int.ofNat 8)))) ∧ ((true = true))) ∧ (((9 : Int) = (Int.ofNat 9)))) ∧ ((true = true))) ∧ (((10 : Int) = (Int.ofNat 10)))) ∧ ((true = true))) ∧ (((11 : Int) = (Int.ofNat 11)))) ∧ ((false = false))) ∧ ((true = true))) ∧ (((12 : Int) = (Int.ofNat 12)))) ∧ ((true = true))) ∧ (((13 : Int) = (Int.ofNat 13)))) ∧ ((true = true))) ∧ (((14 : Int) = (Int.ofNat 14)))) ∧ ((true = true))) ∧ (((15 : Int) = (Int.ofNat 15)))) ∧ ((false = false))) ∧ (rdecode_c1 y0 y1 y2 y3 y4 y5 y6 y7 y8 y9 y10 y11 y12 y13 y14 y15 = true))
theorem rdecode_o1 (y0 y1 y2 y3 y4 y5 y6 y7 y8 y9 y10 y11 y12 y13 y14 y15 : Int) : obOf (rdecode_e1 y0 y1 y2 y3 y4 y5 y6 y7 y8 y9 y10 y11 y12 y13 y14 y15) = rdecode_r1 y0 y1 y2 y3 y4 y5 y6 y7 y8 y9 y10 y11 y12 y13 y14 y15 := by kernel_rfl
theorem rdecode_v1 (y0 y1 y2 y3 y4 y5 y6 y7 y8 y9 y10 y11 y12 y13 y14 y15 : Int) : resOf (rdecode_e1 y0 y1 y2 y3 y4 y5 y6 y7 y8 y9 y10 y11 y12 y13 y14 y15) = rdecode_w1 y0 y1 y2 y3 y4 y5 y6 y7 y8 y9 y10 y11 y12 y13 y14 y15 := by kernel_rfl
theorem rdecode_k1 (y0 y1 y2 y3 y4 y5 y6 y7 y8 y9 y10 y11 y12 y13 y14 y15 : Int) : cleanOf Tryz.prog.globals.size (rdecode_e1 y0 y1 y2 y3 y4 y5 y6 y7 y8 y9 y10 y11 y12 y13 y14 y15) = true := by kernel_rfl
theorem rdecode_q1 (y0 y1 y2 y3 y4 y5 y6 y7 y8 y9 y10 y11 y12 y13 y14 y15 : Int) : rdecode_e1 y0 y1 y2 y3 y4 y5 y6 y7 y8 y9 y10 y11 y12 y13 y14 y15 = evFS Tryz.prog x_rdecode 1000 8 #[.agg #[.int .u8 y0, .int .u8 y1, .int .u8 y2, .int .u8 y3, .int .u8 y4, .int .u8 y5, .int .u8 y6, .int .u8 y7, .int .u8 y8, .int .u8 y9, .int .u8 y10, .int .u8 y11, .int .u8 y12, .int .u8 y13, .int .u8 y14, .int .u8 y15]] (noTabs 6) ⟨[0, 0, 1, 0, 1, 1, 1, 2, 1, 3, 1, 4, 1, 5, 1, 6, 1, 7, 1, 8, 1, 9, 1, 10, 1, 11, 0, 1, 12, 1, 13, 1, 14, 1, 15, 0, 1], True⟩ := by
  delta rdecode_e1
  exact Eq.refl _
theorem rdecode_p1 (y0 y1 y2 y3 y4 y5 y6 y7 y8 y9 y10 y11 y12 y13 y14 y15 : Int) (h : rdecode_r1 y0 y1 y2 y3 y4 y5 y6 y7 y8 y9 y10 y11 y12 y13 y14 y15) (w : World) : Calls Tryz.prog 8 #[.agg #[.int .u8 y0, .int .u8 y1, .int .u8 y2, .int .u8 y3, .int .u8 y4, .int .u8 y5, .int .u8 y6, .int .u8 y7, .int .u8 y8, .int .u8 y9, .int .u8 y10, .int .u8 y11, .int .u8 y12, .int .u8 y13, .int .u8 y14, .int .u8 y15]] w fun en w' => en = .returned (rdecode_w1 y0 y1 y2 y3 y4 y5 y6 y7 y8 y9 y10 y11 y12 y13 y14 y15) ∧ Below w.heap.size w w' := by
  have hv := rdecode_v1 y0 y1 y2 y3 y4 y5 y6 y7 y8 y9 y10 y11 y12 y13 y14 y15
  have hc := rdecode_k1 y0 y1 y2 y3 y4 y5 y6 y7 y8 y9 y10 y11 y12 y13 y14 y15
  have he := rdecode_q1 y0 y1 y2 y3 y4 y5 y6 y7 y8 y9 y10 y11 y12 y13 y14 y15
  have ho := rdecode_o1 y0 y1 y2 y3 y4 y5 y6 y7 y8 y9 y10 y11 y12 y13 y14 y15
  generalize rdecode_e1 y0 y1 y2 y3 y4 y5 y6 y7 y8 y9 y10 y11 y12 y13 y14 y15 = r at *
  exact calls_way he gfol rdecode_X hv rfl (rdecode_args y0 y1 y2 y3 y4 y5 y6 y7 y8 y9 y10 y11 y12 y13 y14 y15) hc ho h (bl w)
def rdecode_w2 (y0 y1 y2 y3 y4 y5 y6 y7 y8 y9 y10 y11 y12 y13 y14 y15 : Int) : Value := .tuple #[.agg #[.int .i64 (0 : Int), .int .i64 (0 : Int), .int .i64 (0 : Int), .int .i64 (0 : Int), .int .i64 (0 : Int), .int .i64 (0 : Int)], .int .i64 (1 : Int)]
def rdecode_r2 (y0 y1 y2 y3 y4 y5 y6 y7 y8 y9 y10 y11 y12 y13 y14 y15 : Int) : Prop := ((True ∧ (((0 : Int) = (Int.ofNat 0)))) ∧ (rdecode_c0 y0 y1 y2 y3 y4 y5 y6 y7 y8 y9 y10 y11 y12 y13 y14 y15 = true))
theorem rdecode_o2 (y0 y1 y2 y3 y4 y5 y6 y7 y8 y9 y10 y11 y12 y13 y14 y15 : Int) : obOf (rdecode_e2 y0 y1 y2 y3 y4 y5 y6 y7 y8 y9 y10 y11 y12 y13 y14 y15) = rdecode_r2 y0 y1 y2 y3 y4 y5 y6 y7 y8 y9 y10 y11 y12 y13 y14 y15 := by kernel_rfl
theorem rdecode_v2 (y0 y1 y2 y3 y4 y5 y6 y7 y8 y9 y10 y11 y12 y13 y14 y15 : Int) : resOf (rdecode_e2 y0 y1 y2 y3 y4 y5 y6 y7 y8 y9 y10 y11 y12 y13 y14 y15) = rdecode_w2 y0 y1 y2 y3 y4 y5 y6 y7 y8 y9 y10 y11 y12 y13 y14 y15 := by kernel_rfl
theorem rdecode_k2 (y0 y1 y2 y3 y4 y5 y6 y7 y8 y9 y10 y11 y12 y13 y14 y15 : Int) : cleanOf Tryz.prog.globals.size (rdecode_e2 y0 y1 y2 y3 y4 y5 y6 y7 y8 y9 y10 y11 y12 y13 y14 y15) = true := by kernel_rfl
theorem rdecode_q2 (y0 y1 y2 y3 y4 y5 y6 y7 y8 y9 y10 y11 y12 y13 y14 y15 : Int) : rdecode_e2 y0 y1 y2 y3 y4 y5 y6 y7 y8 y9 y10 y11 y12 y13 y14 y15 = evFS Tryz.prog x_rdecode 1000 8 #[.agg #[.int .u8 y0, .int .u8 y1, .int .u8 y2, .int .u8 y3, .int .u8 y4, .int .u8 y5, .int .u8 y6, .int .u8 y7, .int .u8 y8, .int .u8 y9, .int .u8 y10, .int .u8 y11, .int .u8 y12, .int .u8 y13, .int .u8 y14, .int .u8 y15]] (noTabs 6) ⟨[0, 1], True⟩ := by
  delta rdecode_e2
  exact Eq.refl _
theorem rdecode_p2 (y0 y1 y2 y3 y4 y5 y6 y7 y8 y9 y10 y11 y12 y13 y14 y15 : Int) (h : rdecode_r2 y0 y1 y2 y3 y4 y5 y6 y7 y8 y9 y10 y11 y12 y13 y14 y15) (w : World) : Calls Tryz.prog 8 #[.agg #[.int .u8 y0, .int .u8 y1, .int .u8 y2, .int .u8 y3, .int .u8 y4, .int .u8 y5, .int .u8 y6, .int .u8 y7, .int .u8 y8, .int .u8 y9, .int .u8 y10, .int .u8 y11, .int .u8 y12, .int .u8 y13, .int .u8 y14, .int .u8 y15]] w fun en w' => en = .returned (rdecode_w2 y0 y1 y2 y3 y4 y5 y6 y7 y8 y9 y10 y11 y12 y13 y14 y15) ∧ Below w.heap.size w w' := by
  have hv := rdecode_v2 y0 y1 y2 y3 y4 y5 y6 y7 y8 y9 y10 y11 y12 y13 y14 y15
  have hc := rdecode_k2 y0 y1 y2 y3 y4 y5 y6 y7 y8 y9 y10 y11 y12 y13 y14 y15
  have he := rdecode_q2 y0 y1 y2 y3 y4 y5 y6 y7 y8 y9 y10 y11 y12 y13 y14 y15
  have ho := rdecode_o2 y0 y1 y2 y3 y4 y5 y6 y7 y8 y9 y10 y11 y12 y13 y14 y15
  generalize rdecode_e2 y0 y1 y2 y3 y4 y5 y6 y7 y8 y9 y10 y11 y12 y13 y14 y15 = r at *
  exact calls_way he gfol rdecode_X hv rfl (rdecode_args y0 y1 y2 y3 y4 y5 y6 y7 y8 y9 y10 y11 y12 y13 y14 y15) hc ho h (bl w)
theorem rdecode_any (y0 y1 y2 y3 y4 y5 y6 y7 y8 y9 y10 y11 y12 y13 y14 y15 : Int) (hpre : (0 ≤ y0 ∧ y0 < 256) ∧ (0 ≤ y1 ∧ y1 < 256) ∧ (0 ≤ y2 ∧ y2 < 256) ∧ (0 ≤ y3 ∧ y3 < 256) ∧ (0 ≤ y4 ∧ y4 < 256) ∧ (0 ≤ y5 ∧ y5 < 256) ∧ (0 ≤ y6 ∧ y6 < 256) ∧ (0 ≤ y7 ∧ y7 < 256) ∧ (0 ≤ y8 ∧ y8 < 256) ∧ (0 ≤ y9 ∧ y9 < 256) ∧ (0 ≤ y10 ∧ y10 < 256) ∧ (0 ≤ y11 ∧ y11 < 256) ∧ (0 ≤ y12 ∧ y12 < 256) ∧ (0 ≤ y13 ∧ y13 < 256) ∧ (0 ≤ y14 ∧ y14 < 256) ∧ (0 ≤ y15 ∧ y15 < 256)) (w : World) : Calls Tryz.prog 8 #[.agg #[.int .u8 y0, .int .u8 y1, .int .u8 y2, .int .u8 y3, .int .u8 y4, .int .u8 y5, .int .u8 y6, .int .u8 y7, .int .u8 y8, .int .u8 y9, .int .u8 y10, .int .u8 y11, .int .u8 y12, .int .u8 y13, .int .u8 y14, .int .u8 y15]] w fun en w' => en = .returned (rdecode_val y0 y1 y2 y3 y4 y5 y6 y7 y8 y9 y10 y11 y12 y13 y14 y15) ∧ Below w.heap.size w w' := by
  obtain ⟨p0, p1, p2, p3, p4, p5, p6, p7, p8, p9, p10, p11, p12, p13, p14, p15⟩ := hpre
  rcases Bool.eq_false_or_eq_true (rdecode_c0 y0 y1 y2 y3 y4 y5 y6 y7 y8 y9 y10 y11 y12 y13 y14 y15) with h0 | h0
  ·
    unfold rdecode_c0 at h0
    have hp := rdecode_p2 y0 y1 y2 y3 y4 y5 y6 y7 y8 y9 y10 y11 y12 y13 y14 y15 ⟨⟨trivial, rdecode_g0⟩, h0⟩ w
    have hv : rdecode_w2 y0 y1 y2 y3 y4 y5 y6 y7 y8 y9 y10 y11 y12 y13 y14 y15 = (rdecode_val y0 y1 y2 y3 y4 y5 y6 y7 y8 y9 y10 y11 y12 y13 y14 y15) := by
      clear hp
      unfold rdecode_w2 rdecode_val
      simp only [bne_eq_false_iff_eq, bne_iff_ne, ne_eq, beq_iff_eq, beq_eq_false_iff_ne, Bool.not_eq_true', Bool.not_eq_false', Bool.not_eq_eq_eq_not, Bool.not_true, Bool.not_false] at *
      (try simp (disch := first | exact inS_st | (unfold inB; assumption) | omega) only [rs1, rs, or0, orA, csY_eq] at *)
      (try simp (disch := first | omega) only [wsg, sg_in, wi] at *)
      (try simp only [Int.zero_add, nrm2] at *)
      first | (have hF : (fe y0 (csY y0 y1 y2 y3 y4 y5 y6 y7 y8 y9 y10 y11) (((y12 * 256 + y13) * 256 + y14) * 256 + y15)) = 0 := (by unfold fe; rw [if_pos (by omega), if_pos (by omega)]); rw [hF]; simp only [cz, ↓reduceIte]) | (have hF : (fe y0 (csY y0 y1 y2 y3 y4 y5 y6 y7 y8 y9 y10 y11) (((y12 * 256 + y13) * 256 + y14) * 256 + y15)) = 27 := (by unfold fe; rw [if_pos (by omega), if_neg (by omega)]); rw [hF]; rfl) | (have hF : (fe y0 (csY y0 y1 y2 y3 y4 y5 y6 y7 y8 y9 y10 y11) (((y12 * 256 + y13) * 256 + y14) * 256 + y15)) = 1 := (by unfold fe; rw [if_neg (by omega)]); rw [hF]; rfl)
    exact hv ▸ hp
  ·
    unfold rdecode_c0 at h0
    rcases Bool.eq_false_or_eq_true (rdecode_c1 y0 y1 y2 y3 y4 y5 y6 y7 y8 y9 y10 y11 y12 y13 y14 y15) with h1 | h1
    ·
      unfold rdecode_c1 at h1
      have hp := rdecode_p1 y0 y1 y2 y3 y4 y5 y6 y7 y8 y9 y10 y11 y12 y13 y14 y15 ⟨⟨⟨⟨⟨⟨⟨⟨⟨⟨⟨⟨⟨⟨⟨⟨⟨⟨⟨⟨⟨⟨⟨⟨⟨⟨⟨⟨⟨⟨⟨⟨⟨⟨⟨⟨⟨trivial, rdecode_g0⟩, h0⟩, rdecode_g2⟩, rdecode_g0⟩, rdecode_g2⟩, rdecode_g3⟩, rdecode_g2⟩, rdecode_g4⟩, rdecode_g2⟩, rdecode_g5⟩, rdecode_g2⟩, rdecode_g6⟩, rdecode_g2⟩, rdecode_g7⟩, rdecode_g2⟩, rdecode_g8⟩, rdecode_g2⟩, rdecode_g9⟩, rdecode_g2⟩, rdecode_g10⟩, rdecode_g2⟩, rdecode_g11⟩, rdecode_g2⟩, rdecode_g12⟩, rdecode_g2⟩, rdecode_g13⟩, rdecode_g14⟩, rdecode_g2⟩, rdecode_g15⟩, rdecode_g2⟩, rdecode_g16⟩, rdecode_g2⟩, rdecode_g17⟩, rdecode_g2⟩, rdecode_g18⟩, rdecode_g14⟩, h1⟩ w
      have hv : rdecode_w1 y0 y1 y2 y3 y4 y5 y6 y7 y8 y9 y10 y11 y12 y13 y14 y15 = (rdecode_val y0 y1 y2 y3 y4 y5 y6 y7 y8 y9 y10 y11 y12 y13 y14 y15) := by
        clear hp
        unfold rdecode_w1 rdecode_val
        simp only [bne_eq_false_iff_eq, bne_iff_ne, ne_eq, beq_iff_eq, beq_eq_false_iff_ne, Bool.not_eq_true', Bool.not_eq_false', Bool.not_eq_eq_eq_not, Bool.not_true, Bool.not_false] at *
        (try simp (disch := first | exact inS_st | (unfold inB; assumption) | omega) only [rs1, rs, or0, orA, csY_eq] at *)
        (try simp (disch := first | omega) only [wsg, sg_in, wi] at *)
        (try simp only [Int.zero_add, nrm2] at *)
        first | (have hF : (fe y0 (csY y0 y1 y2 y3 y4 y5 y6 y7 y8 y9 y10 y11) (((y12 * 256 + y13) * 256 + y14) * 256 + y15)) = 0 := (by unfold fe; rw [if_pos (by omega), if_pos (by omega)]); rw [hF]; simp only [cz, ↓reduceIte]) | (have hF : (fe y0 (csY y0 y1 y2 y3 y4 y5 y6 y7 y8 y9 y10 y11) (((y12 * 256 + y13) * 256 + y14) * 256 + y15)) = 27 := (by unfold fe; rw [if_pos (by omega), if_neg (by omega)]); rw [hF]; rfl) | (have hF : (fe y0 (csY y0 y1 y2 y3 y4 y5 y6 y7 y8 y9 y10 y11) (((y12 * 256 + y13) * 256 + y14) * 256 + y15)) = 1 := (by unfold fe; rw [if_neg (by omega)]); rw [hF]; rfl)
      exact hv ▸ hp
    ·
      unfold rdecode_c1 at h1
      have hp := rdecode_p0 y0 y1 y2 y3 y4 y5 y6 y7 y8 y9 y10 y11 y12 y13 y14 y15 ⟨⟨⟨⟨⟨⟨⟨⟨⟨⟨⟨⟨⟨⟨⟨⟨⟨⟨⟨⟨⟨⟨⟨⟨⟨⟨⟨⟨⟨⟨⟨⟨⟨⟨⟨⟨⟨⟨⟨⟨⟨⟨⟨⟨⟨⟨⟨⟨⟨⟨⟨⟨⟨⟨⟨⟨⟨⟨⟨⟨⟨⟨⟨⟨⟨⟨⟨⟨⟨⟨⟨⟨trivial, rdecode_g0⟩, h0⟩, rdecode_g2⟩, rdecode_g0⟩, rdecode_g2⟩, rdecode_g3⟩, rdecode_g2⟩, rdecode_g4⟩, rdecode_g2⟩, rdecode_g5⟩, rdecode_g2⟩, rdecode_g6⟩, rdecode_g2⟩, rdecode_g7⟩, rdecode_g2⟩, rdecode_g8⟩, rdecode_g2⟩, rdecode_g9⟩, rdecode_g2⟩, rdecode_g10⟩, rdecode_g2⟩, rdecode_g11⟩, rdecode_g2⟩, rdecode_g12⟩, rdecode_g2⟩, rdecode_g13⟩, rdecode_g14⟩, rdecode_g2⟩, rdecode_g15⟩, rdecode_g2⟩, rdecode_g16⟩, rdecode_g2⟩, rdecode_g17⟩, rdecode_g2⟩, rdecode_g18⟩, rdecode_g14⟩, h1⟩, rdecode_g3⟩, rdecode_g2⟩, rdecode_g4⟩, rdecode_g2⟩, rdecode_g5⟩, rdecode_g14⟩, rdecode_g2⟩, rdecode_g2⟩, rdecode_g6⟩, rdecode_g2⟩, rdecode_g7⟩, rdecode_g14⟩, rdecode_g0⟩, rdecode_g2⟩, rdecode_g2⟩, rdecode_g8⟩, rdecode_g2⟩, rdecode_g9⟩, rdecode_g14⟩, rdecode_g3⟩, rdecode_g2⟩, rdecode_g2⟩, rdecode_g10⟩, rdecode_g2⟩, rdecode_g11⟩, rdecode_g14⟩, rdecode_g4⟩, rdecode_g2⟩, rdecode_g2⟩, rdecode_g12⟩, rdecode_g2⟩, rdecode_g13⟩, rdecode_g14⟩, rdecode_g5⟩, rdecode_g14⟩ w
      have hv : rdecode_w0 y0 y1 y2 y3 y4 y5 y6 y7 y8 y9 y10 y11 y12 y13 y14 y15 = (rdecode_val y0 y1 y2 y3 y4 y5 y6 y7 y8 y9 y10 y11 y12 y13 y14 y15) := by
        clear hp
        unfold rdecode_w0 rdecode_val
        simp only [bne_eq_false_iff_eq, bne_iff_ne, ne_eq, beq_iff_eq, beq_eq_false_iff_ne, Bool.not_eq_true', Bool.not_eq_false', Bool.not_eq_eq_eq_not, Bool.not_true, Bool.not_false] at *
        (try simp (disch := first | exact inS_st | (unfold inB; assumption) | omega) only [rs1, rs, or0, orA, csY_eq] at *)
        (try simp (disch := first | omega) only [wsg, sg_in, wi] at *)
        (try simp only [Int.zero_add, nrm2] at *)
        first | (have hF : (fe y0 (csY y0 y1 y2 y3 y4 y5 y6 y7 y8 y9 y10 y11) (((y12 * 256 + y13) * 256 + y14) * 256 + y15)) = 0 := (by unfold fe; rw [if_pos (by omega), if_pos (by omega)]); rw [hF]; simp only [cz, ↓reduceIte]) | (have hF : (fe y0 (csY y0 y1 y2 y3 y4 y5 y6 y7 y8 y9 y10 y11) (((y12 * 256 + y13) * 256 + y14) * 256 + y15)) = 27 := (by unfold fe; rw [if_pos (by omega), if_neg (by omega)]); rw [hF]; rfl) | (have hF : (fe y0 (csY y0 y1 y2 y3 y4 y5 y6 y7 y8 y9 y10 y11) (((y12 * 256 + y13) * 256 + y14) * 256 + y15)) = 1 := (by unfold fe; rw [if_neg (by omega)]); rw [hF]; rfl)
      exact hv ▸ hp
theorem k_rdecode : ConOk Tryz.prog c_rdecode := fun ns hl => by
  have hl0 : ns.length = 16 := hl
  clear hl
  obtain ⟨y0, ns0, rfl, hl1⟩ := len_cons hl0
  obtain ⟨y1, ns1, rfl, hl2⟩ := len_cons hl1
  obtain ⟨y2, ns2, rfl, hl3⟩ := len_cons hl2
  obtain ⟨y3, ns3, rfl, hl4⟩ := len_cons hl3
  obtain ⟨y4, ns4, rfl, hl5⟩ := len_cons hl4
  obtain ⟨y5, ns5, rfl, hl6⟩ := len_cons hl5
  obtain ⟨y6, ns6, rfl, hl7⟩ := len_cons hl6
  obtain ⟨y7, ns7, rfl, hl8⟩ := len_cons hl7
  obtain ⟨y8, ns8, rfl, hl9⟩ := len_cons hl8
  obtain ⟨y9, ns9, rfl, hl10⟩ := len_cons hl9
  obtain ⟨y10, ns10, rfl, hl11⟩ := len_cons hl10
  obtain ⟨y11, ns11, rfl, hl12⟩ := len_cons hl11
  obtain ⟨y12, ns12, rfl, hl13⟩ := len_cons hl12
  obtain ⟨y13, ns13, rfl, hl14⟩ := len_cons hl13
  obtain ⟨y14, ns14, rfl, hl15⟩ := len_cons hl14
  obtain ⟨y15, ns15, rfl, hl16⟩ := len_cons hl15
  obtain rfl := len_nil hl16
  exact ⟨rfl, fun h w => rdecode_any y0 y1 y2 y3 y4 y5 y6 y7 y8 y9 y10 y11 y12 y13 y14 y15 h w⟩
end Go.Proofs.YtgapibngfpafpaaGreatDoor
end
