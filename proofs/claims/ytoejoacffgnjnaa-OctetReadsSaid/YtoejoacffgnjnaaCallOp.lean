/- The contract of the law's 'call': a number with a sign, or without. Conditions: at most 2000 octets. -/
import Derived.Test.YtoejoacffgnjnaaBack
namespace Go.Proofs.Ytoejoacffgnjnaa
open Go.RowKit

def told (s : Bool) (ys : List Int) : Int := if s then sg ys else wrap64 (val ys)
theorem Rd.alloc {w : World} {g : Nat} {xs : List Int} {a : Nat} {good : Bool} (h : Rd w g xs a good) (o : Obj) : Rd (w.alloc o) g xs a good :=
  h.below ((Below.refl w.heap.size w).alloc (Nat.le_refl _) o) h.lt
theorem reads_up {v : Int} {xs : List Int} {g a k : Nat} {w w' : World} {e : Ending} {o : Obj} (h : Reads v xs g a k (w.alloc o) e w') : Reads v xs g a k w e w' :=
  ⟨h.1, h.2.1, grown_trans (World.grownBy_alloc w o _) h.2.2⟩
theorem none_up {xs : List Int} {g a : Nat} {w w' : World} {e : Ending} {o : Obj} (h : ReadsNone xs g a (w.alloc o) e w') : ReadsNone xs g a w e w' :=
  ⟨h.1, h.2.1, grown_trans (World.grownBy_alloc w o _) h.2.2⟩

theorem call_yes {w : World} {g : Nat} {xs : List Int} {a k : Nat} (s : Bool) (h : Rd w g xs a true) (h1 : 1 ≤ k) (h8 : k ≤ 8) (hak : a + k ≤ xs.length) :
    Calls Try.prog 13 #[.pointer (some ⟨g, 0, none⟩), .agg #[.int .i64 (k : Int), .bool s]] w (Reads (told s ((xs.drop a).take k)) xs g a k w) := by
  cases s with
  | true =>
    go_enter Try.func13, Try.ntmps13
    go_wp2_with fail
    refine (signed_yes (h.alloc _) h1 h8 hak).mono ?_
    rintro e w2 hr
    obtain ⟨rfl, hr1, hg1⟩ := reads_up hr
    clear hr
    go_wp2
    go_ret2
    exact ⟨rfl, hr1, hg1⟩
  | false =>
    go_enter Try.func13, Try.ntmps13
    go_wp2_with fail
    refine (num_yes (h.alloc _) h1 h8 hak).mono ?_
    rintro e w2 hr
    obtain ⟨rfl, hr1, hg1⟩ := reads_up hr
    clear hr
    go_wp2
    go_ret2
    exact ⟨rfl, hr1, hg1⟩
theorem call_no {w : World} {g : Nat} {xs : List Int} {a : Nat} {good : Bool} {k : Int} (s : Bool) (h : Rd w g xs a good) (hk : good = false ∨ k < 1 ∨ 8 < k ∨ (xs.length : Int) < a + k) :
    Calls Try.prog 13 #[.pointer (some ⟨g, 0, none⟩), .agg #[.int .i64 k, .bool s]] w (ReadsNone xs g a w) := by
  have HK := Lib.hid hk
  clear hk
  cases s with
  | true =>
    go_enter Try.func13, Try.ntmps13
    go_wp2_with fail
    refine (signed_no (h.alloc _) HK.out).mono ?_
    rintro e w2 hr
    obtain ⟨rfl, hr1, hg1⟩ := none_up hr
    clear hr
    go_wp2
    go_ret2
    exact ⟨rfl, hr1, hg1⟩
  | false =>
    go_enter Try.func13, Try.ntmps13
    go_wp2_with fail
    refine (num_no (h.alloc _) HK.out).mono ?_
    rintro e w2 hr
    obtain ⟨rfl, hr1, hg1⟩ := none_up hr
    clear hr
    go_wp2
    go_ret2
    exact ⟨rfl, hr1, hg1⟩
end Go.Proofs.Ytoejoacffgnjnaa
