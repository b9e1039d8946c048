/-
  The place of a function in a list: spec.l2Place.
  Which calls fit a list of functions, as data.
  spec.l2Fit: all calls of an expression fit a list of functions.
  A map whose keys are ints, made by the call: what a lookup and the store of a new key give. Over any program.
  impl.defsByName: the first function with each name, in a map.
  impl.allCallsFit: each call is one of a function of the map, with as many arguments as it has.
  spec.l1Any, impl.validOpen: valid with all variables in scope; CallsFit, both sides.
  CallsFit: the model and the program.
  spec.l1Any (in OpenS), with what Any has.
  spec.CallsFit.
  impl.argumentsOf: the variables that are the arguments of a function.
  LibraryValid, as data.
  What a valid library is good for, as data.
-/
import Derived.Test.YtpknegneogdmfaaGreatDe
import Derived.Test.YtpknegneogdmfaaGreatRows
import Derived.WalkKit
import Derived.WalkSpells
import Derived.Lib.Hide
import Derived.Test.YtpknegneogdmfaaGreatFo
import Derived.WalkSmall
import Derived.BigQuiet
import Derived.Deep.QuietTactic
import Derived.MapKept
import Derived.Maps.OwnOps
import Derived.Laws.Rows
import Derived.Below
import Derived.Test.YtpknegneogdmfaaGreatVars
import Derived.Test.YtpknegneogdmfaaGreatNodesI
import Derived.Test.YtpknegneogdmfaaGreatOpen
import Derived.Test.YtpknegneogdmfaaGreatShape
import Derived.Deep.RegionHeld3
import Derived.Deep.RegionWith
import Derived.Maps.AppendAt
namespace Go.Proofs.YtpknegneogdmfaaGreat
open Go.RowKit
set_option maxRecDepth 100000

/-- The place of the first element with the name x, or how many there are. -/
def plc (x : Int) : List De → Nat
  | [] => 0
  | d :: r => if d.nm = x then 0 else plc x r + 1
theorem plc_le (x : Int) : ∀ ds : List De, plc x ds ≤ ds.length
  | [] => Nat.le_refl _
  | d :: r => by have := plc_le x r; simp only [plc, List.length_cons]; split <;> omega
theorem plc_hit {x : Int} {ds : List De} {j : Nat} {d : De} (h : ds[j]? = some d) (hp : plc x ds = j + plc x (ds.drop j)) (hx : d.nm = x) : plc x ds = j := by
  rw [hp, drop_at h]; simp [plc, hx]
theorem plc_miss {x : Int} {ds : List De} {j : Nat} {d : De} (h : ds[j]? = some d) (hp : plc x ds = j + plc x (ds.drop j)) (hx : d.nm ≠ x) : plc x ds = j + 1 + plc x (ds.drop (j + 1)) := by
  rw [hp, drop_at h]; simp [plc, hx]; omega
theorem plc_end {x : Int} {ds : List De} {j : Nat} (hj : ds.length ≤ j) (hp : plc x ds = j + plc x (ds.drop j)) : plc x ds = j := by
  rw [hp, List.drop_eq_nil_iff.2 hj]; rfl
def plcI (x : Int) (ds : List De) : Int := if plc x ds < ds.length then (plc x ds : Int) else -1

set_option maxHeartbeats 400000 in
theorem place_any (ds : List De) (A : Option Addr) (c : Nat) (w : World) (x : Int) (hl : LiesD w 0 w.heap.size A ds) (hsz : ds.length ≤ 1048576) :
    Calls Tryz.prog 48 #[.slice A ds.length c, .int .i64 x] w (Gives (.int .i64 (plcI x ds)) w) := by
  go_enter Tryz.func48, Tryz.ntmps48
  go_wp2
  go_loopw [5] (fun i wr => ∃ (j : Nat), j ≤ ds.length ∧ i = .int .i64 j ∧ Hid (plc x ds = j + plc x (ds.drop j)) ∧ Below w.heap.size w wr)
    (fun i _ => ds.length - (intOf i).toNat)
  case atStart => exact ⟨0, by omega, rfl, Lib.hid (by simp), Below.refl _ _⟩
  case round =>
    obtain ⟨j, hj, rfl, hp, hb⟩ := hrel
    by_cases hlt : j < ds.length
    · have e1 := List.getElem?_eq_getElem hlt
      generalize ds[j] = d at e1
      obtain ⟨b, o, A', c', hA, _, hbb, hf, g1, _⟩ := hl.below hb j d e1
      subst hA
      have E1 := Lib.hid e1
      clear e1
      by_cases hx : d.nm = x
      · have hpl := plc_hit E1.out hp.out hx
        have HP := Lib.hid hpl
        clear hpl
        go_wp2
        go_ret
        have hpi : plcI x ds = (j : Int) := by unfold plcI; rw [if_pos (by rw [HP.out]; exact hlt), HP.out]
        rw [hpi]
        exact ⟨rfl, hb⟩
      · have hm := Lib.hid (plc_miss E1.out hp.out hx)
        go_wp2
        go_roundw
        case rel => exact ⟨j + 1, by omega, by go_num, hm, hb⟩
        case measure => simp [intOf]; omega
    · have hpl := Lib.hid (plc_end (by omega) hp.out)
      go_wp2
      go_ret
      have hpi : plcI x ds = -1 := by unfold plcI; rw [if_neg (by rw [hpl.out]; exact hlt)]
      rw [hpi]
      exact ⟨rfl, hb⟩
end Go.Proofs.YtpknegneogdmfaaGreat

namespace Go.Proofs.YtpknegneogdmfaaGreat
open Go.RowKit
set_option maxRecDepth 100000

/-- The first function with a name. -/
def fnd (x : Int) (ds : List De) : Option De := ds.find? fun d => decide (d.nm = x)
theorem fnd_snoc (x : Int) (ds : List De) (d : De) : fnd x (ds ++ [d]) = (fnd x ds).or (if d.nm = x then some d else none) := by
  unfold fnd
  rw [List.find?_append]
  congr 1
  simp only [List.find?_cons, List.find?_nil]
  by_cases h : d.nm = x <;> simp [h]
theorem fnd_take {x : Int} {ds : List De} {j : Nat} {d : De} (h : ds[j]? = some d) : fnd x (ds.take (j + 1)) = (fnd x (ds.take j)).or (if d.nm = x then some d else none) := by
  rw [← fnd_snoc]
  congr 1
  obtain ⟨hj, rfl⟩ := List.getElem?_eq_some_iff.1 h
  exact List.take_succ_eq_append_getElem hj

/-- One call: the function is there, with as many arguments. -/
def okCall (ari : Int → Option Int) (op n : Int) (l : Nat) : Bool := if op = 3 then decide (ari n = some (l : Int)) else true
def okQ (ari : Int → Option Int) (q : Nd) : Bool := okCall ari q.op q.n q.k.len
def fitF (ari : Int → Option Int) : Fo → Bool
  | .nil => true
  | .cons op n k r => (okCall ari op n k.len && fitF ari k) && fitF ari r
def fitN (ari : Int → Option Int) (op n : Int) (k : Fo) : Bool := okCall ari op n k.len && fitF ari k
theorem fitF_cons {ari : Int → Option Int} {f : Fo} {op n : Int} {k r : Fo} (e : f = .cons op n k r) : fitF ari f = (fitN ari op n k && fitF ari r) := by subst e; rfl
theorem all_ordF (ari : Int → Option Int) : ∀ (p : Nd) (i : Nat) (k : Fo), (ordF (fun _ _ => false) p i k).all (okQ ari) = fitF ari k
  | _, _, .nil => rfl
  | p, i, .cons op n k r => by
    have h1 := all_ordF ari p (i + 1) r
    have h2 := all_ordF ari ⟨op, n, k⟩ 0 k
    simp only [ordF, List.all_append, h1, fitF]
    simp [h2, okQ, Bool.and_comm]
theorem all_ordN (ari : Int → Option Int) (p : Nd) : (ordN (fun _ _ => false) p).all (okQ ari) = fitN ari p.op p.n p.k := by
  simp [ordN, all_ordF, okQ, fitN]

/-- The numbers of arguments: as the model has them, and as the map has them. -/
def ariS (ds : List De) (x : Int) : Option Int := (fnd x ds).map (·.ar)
def ariI (ds : List De) (x : Int) : Option Int := if inVar x = true then ariS ds x else none

theorem fnd_cons (x : Int) (d : De) (r : List De) : fnd x (d :: r) = if d.nm = x then some d else fnd x r := by
  unfold fnd
  rw [List.find?_cons]
  by_cases h : d.nm = x <;> simp [h]
theorem plc_fnd (x : Int) : ∀ ds : List De, (plc x ds < ds.length → ∃ d, ds[plc x ds]? = some d ∧ fnd x ds = some d) ∧ (¬ plc x ds < ds.length → fnd x ds = none)
  | [] => ⟨fun h => by simp [plc] at h, fun _ => rfl⟩
  | d :: r => by
    obtain ⟨h1, h2⟩ := plc_fnd x r
    by_cases h : d.nm = x
    · refine ⟨fun _ => ⟨d, by simp [plc, h], by rw [fnd_cons, if_pos h]⟩, fun hn => absurd ?_ hn⟩
      simp [plc, h]
    · refine ⟨fun hl => ?_, fun hn => ?_⟩
      · simp only [plc, if_neg h, List.length_cons] at hl ⊢
        obtain ⟨d', e1, e2⟩ := h1 (by omega)
        exact ⟨d', by simpa using e1, by rw [fnd_cons, if_neg h, e2]⟩
      · rw [fnd_cons, if_neg h]
        refine h2 fun hl => hn ?_
        simp only [plc, if_neg h, List.length_cons]
        omega
theorem okCall_other {ari : Int → Option Int} {op n : Int} {l : Nat} (h : op ≠ 3) : okCall ari op n l = true := by simp [okCall, h]
end Go.Proofs.YtpknegneogdmfaaGreat

namespace Go.Proofs.YtpknegneogdmfaaGreat
open Go.RowKit
set_option maxRecDepth 100000

set_option maxHeartbeats 1000000 in
theorem l2Fit_any (m : Nat) (ds : List De) (DA : Option Addr) (DC : Nat) (hds : ds.length ≤ 1048576) : ∀ (op n : Int) (k : Fo) (A : Option Addr) (c : Nat) (w : World), k.size = m → LiesD w 0 w.heap.size DA ds → Lies w 0 w.heap.size A 0 k → k.size ≤ 1048576 →
    Calls Tryz.prog 43 #[.slice DA ds.length DC, .agg #[.int .i64 op, .int .i64 n, .slice A k.len c]] w (Gives (.bool (fitN (ariS ds) op n k)) w) := by
  induction m using Nat.strongRecOn with
  | _ m ih =>
    intro op n k A c w hm hd hl hsz
    have hlen := Fo.len_le_size k
    have hb0 : Below w.heap.size w (w.alloc (Obj.cells #[Value.int IntKind.i64 op, Value.int IntKind.i64 n, Value.slice A k.len c] 36)) := (Below.refl _ _).alloc (Nat.le_refl _) _
    have hr0 := Row.fresh w 36 #[Value.int IntKind.i64 op, Value.int IntKind.i64 n, Value.slice A k.len c]
    by_cases ho : op = 3
    · subst ho
      have hpl := place_any ds DA DC (w.alloc (Obj.cells #[Value.int IntKind.i64 3, Value.int IntKind.i64 n, Value.slice A k.len c] 36)) n (hd.up hb0) hds
      have hpf := plc_fnd n ds
      unfold plcI at hpl
      by_cases hp : plc n ds < ds.length
      · rw [if_pos hp] at hpl
        obtain ⟨d, e1, e2⟩ := hpf.1 hp
        have HPL := Lib.hid hpl
        clear hpl hpf
        go_enter Tryz.func43, Tryz.ntmps43
        go_wp2_with fail
        refine HPL.out.mono ?_
        rintro e w1 ⟨rfl, hb1'⟩
        have hb1 := hb0.trans (hb1'.mono hb0.size)
        have hr1 := hr0.below hb1' hr0.size
        obtain ⟨b, o, A', c', hA, _, hbb, hf, g1, g2, g3, g4, g5, g6, h7, h8, h9⟩ := hd.below hb1 _ d e1
        subst hA
        have q2 := hr1.cell (i := 2) rfl
        have t0 : decide (((plc n ds : Nat) : Int) < 0) = false := by simp
        generalize plc n ds = p at hp g2 t0 ⊢
        by_cases ha : d.ar = (k.len : Int)
        · have HFIN := Lib.hid (show fitN (ariS ds) 3 n k = fitF (ariS ds) k by simp [fitN, okCall, ariS, e2, ha])
          rw [ha] at g2
          have HQ1 := Lib.hid hr1
          have HQ2 := Lib.hid hb1
          clear hb0 hr0 hb1' hr1 hb1 HPL g1 g3 g4 g5 g6 h9 e1 e2 ha
          go_wp2
          go_quiet (fail)
          have HB1 := Lib.hid (below_drewN HQ2.out nq)
          have HR1 := Lib.hid (show Row (w1.drewN nq) w.heap.size 36 #[Value.int IntKind.i64 3, Value.int IntKind.i64 n, Value.slice A k.len c] from HQ1.out)
          clear HQ1 HQ2 q2 g2 t0
          generalize w1.drewN nq = w9 at *
          go_wp2_with fail
          go_loopw [6] (fun i wr => ∃ (j : Nat), j ≤ k.len ∧ i = .int .i64 j ∧ Hid (fitF (ariS ds) k = fitF (ariS ds) (k.drop j)) ∧ Row wr w.heap.size 36 #[Value.int IntKind.i64 3, Value.int IntKind.i64 n, Value.slice A k.len c] ∧ Below w.heap.size w wr)
            (fun i _ => k.len - (intOf i).toNat)
          case atStart => exact ⟨0, Nat.zero_le _, rfl, Lib.hid (by rw [Fo.drop_zero]), HR1.out, HB1.out⟩
          case round =>
            clear HR1 HB1
            obtain ⟨j, hj, rfl, HF, hrE, hb⟩ := hrel
            have q2 := hrE.cell (i := 2) rfl
            by_cases hlt : j < k.len
            · obtain ⟨op', n', k', e1, e2, e3⟩ := Fo.drop_of_lt k j hlt
              have hj' := (hl.below hb).at_ j
              rw [Nat.zero_add, e1] at hj'
              obtain ⟨⟨b, o, A', c', hA, _, hb2, i1, i2, g1, g2, g3, h1, h2, h3⟩, _⟩ := hj'
              subst hA
              have HE := Lib.hid (HF.out.trans (fitF_cons e1))
              have HC := Lib.hid (ih k'.size (by omega) op' n' k' A' c' wr rfl (hd.up hb) (h3.mono_ (Nat.le_refl _) hb.size) (by omega))
              have HRE := Lib.hid hrE
              have HB := Lib.hid hb
              clear hrE hb e1 h3 ih hl hd HF
              go_wp2_with fail
              refine HC.out.mono ?_
              rintro e w2 ⟨rfl, hb3⟩
              have HR2 := Lib.hid (HRE.out.below hb3 HRE.out.size)
              have HB2 := Lib.hid (HB.out.trans (hb3.mono HB.out.size))
              clear hb3 q2 g1 g2 g3 HC HRE HB
              cases hf : fitN (ariS ds) op' n' k' with
              | true =>
                rw [hf, Bool.true_and] at HE
                clear hf
                go_wp2
                go_roundw
                case rel => exact ⟨j + 1, hlt, by go_num, HE, HR2.out, HB2.out⟩
                case measure => simp [intOf]; omega
              | false =>
                rw [hf, Bool.false_and] at HE
                clear hf
                go_wp2
                go_ret
                exact ⟨ret_bool (by rw [HFIN.out, HE.out]), HB2.out⟩
            · have e9 : j = k.len := by omega
              have HZ := Lib.hid (show fitF (ariS ds) k = true by rw [HF.out, e9, Fo.drop_len]; rfl)
              clear HF
              go_wp2
              go_ret
              exact ⟨ret_bool (by rw [HFIN.out, HZ.out]), hb⟩
        · have HFIN := Lib.hid (show fitN (ariS ds) 3 n k = false by simp [fitN, okCall, ariS, e2, ha])
          have HQ2 := Lib.hid hb1
          have t1 : (d.ar == (k.len : Int)) = false := by simpa using ha
          have t2 : (d.ar != (k.len : Int)) = true := by simpa using ha
          clear hb0 hr0 hb1' hr1 hb1 HPL g1 g3 g4 g5 g6 h9 e1 e2
          go_wp2
          go_quiet (fail)
          have HB1 := Lib.hid (below_drewN HQ2.out nq)
          clear HQ2 q2 g2 t0
          go_wp2
          go_ret
          exact ⟨ret_bool (by rw [HFIN.out]), HB1.out⟩
      · rw [if_neg hp] at hpl
        have HFIN := Lib.hid (show fitN (ariS ds) 3 n k = false by simp [fitN, okCall, ariS, hpf.2 hp])
        have HPL := Lib.hid hpl
        clear hpl hpf
        go_enter Tryz.func43, Tryz.ntmps43
        go_wp2_with fail
        refine HPL.out.mono ?_
        rintro e w1 ⟨rfl, hb1'⟩
        have hb1 := hb0.trans (hb1'.mono hb0.size)
        have hr1 := hr0.below hb1' hr0.size
        have q2 := hr1.cell (i := 2) rfl
        have HQ2 := Lib.hid hb1
        clear hb0 hr0 hb1' hr1 hb1 HPL
        go_wp2
        go_quiet (fail)
        have HB1 := Lib.hid (below_drewN HQ2.out nq)
        clear HQ2 q2
        go_wp2
        go_ret
        exact ⟨ret_bool (by rw [HFIN.out]), HB1.out⟩
    · have HFIN := Lib.hid (show fitN (ariS ds) op n k = fitF (ariS ds) k by simp [fitN, okCall, ho])
      have h9 : (op == 3) = false := by simpa using ho
      have HR1 := Lib.hid hr0
      have HB1 := Lib.hid hb0
      clear hr0 hb0
      go_enter Tryz.func43, Tryz.ntmps43
      go_wp2_with fail
      go_loopw [6] (fun i wr => ∃ (j : Nat), j ≤ k.len ∧ i = .int .i64 j ∧ Hid (fitF (ariS ds) k = fitF (ariS ds) (k.drop j)) ∧ Row wr w.heap.size 36 #[Value.int IntKind.i64 op, Value.int IntKind.i64 n, Value.slice A k.len c] ∧ Below w.heap.size w wr)
        (fun i _ => k.len - (intOf i).toNat)
      case atStart => exact ⟨0, Nat.zero_le _, rfl, Lib.hid (by rw [Fo.drop_zero]), HR1.out, HB1.out⟩
      case round =>
        clear HR1 HB1
        obtain ⟨j, hj, rfl, HF, hrE, hb⟩ := hrel
        have q2 := hrE.cell (i := 2) rfl
        by_cases hlt : j < k.len
        · obtain ⟨op', n', k', e1, e2, e3⟩ := Fo.drop_of_lt k j hlt
          have hj' := (hl.below hb).at_ j
          rw [Nat.zero_add, e1] at hj'
          obtain ⟨⟨b, o, A', c', hA, _, hb2, i1, i2, g1, g2, g3, h1, h2, h3⟩, _⟩ := hj'
          subst hA
          have HE := Lib.hid (HF.out.trans (fitF_cons e1))
          have HC := Lib.hid (ih k'.size (by omega) op' n' k' A' c' wr rfl (hd.up hb) (h3.mono_ (Nat.le_refl _) hb.size) (by omega))
          have HRE := Lib.hid hrE
          have HB := Lib.hid hb
          clear hrE hb e1 h3 ih hl hd HF
          go_wp2_with fail
          refine HC.out.mono ?_
          rintro e w2 ⟨rfl, hb3⟩
          have HR2 := Lib.hid (HRE.out.below hb3 HRE.out.size)
          have HB2 := Lib.hid (HB.out.trans (hb3.mono HB.out.size))
          clear hb3 q2 g1 g2 g3 HC HRE HB
          cases hf : fitN (ariS ds) op' n' k' with
          | true =>
            rw [hf, Bool.true_and] at HE
            clear hf
            go_wp2
            go_roundw
            case rel => exact ⟨j + 1, hlt, by go_num, HE, HR2.out, HB2.out⟩
            case measure => simp [intOf]; omega
          | false =>
            rw [hf, Bool.false_and] at HE
            clear hf
            go_wp2
            go_ret
            exact ⟨ret_bool (by rw [HFIN.out, HE.out]), HB2.out⟩
        · have e9 : j = k.len := by omega
          have HZ := Lib.hid (show fitF (ariS ds) k = true by rw [HF.out, e9, Fo.drop_len]; rfl)
          clear HF
          go_wp2
          go_ret
          exact ⟨ret_bool (by rw [HFIN.out, HZ.out]), hb⟩
end Go.Proofs.YtpknegneogdmfaaGreat

namespace Go.Proofs.YtpknegneogdmfaaGreat
open Go Go.Instr Go.RowKit
set_option maxRecDepth 100000

/-- The entries of a map as pairs. -/
abbrev IEnts := List (Int × Value)
def ilook : IEnts → Int → Option Value
  | [], _ => none
  | p :: r, a => if p.1 = a then some p.2 else ilook r a
theorem ilook_snoc : ∀ (es : IEnts) (a : Int) (v : Value) (x : Int), ilook (es ++ [(a, v)]) x = (ilook es x).or (if a = x then some v else none)
  | [], a, v, x => by simp [ilook]
  | p :: r, a, v, x => by
    simp only [List.cons_append, ilook, ilook_snoc r a v x]
    split <;> simp

/-- The pairs are the entries of the map r. -/
def IM (w : World) (r : Nat) (es : IEnts) : Prop :=
  ∃ (ents : Array MapEntry) (clock : Nat), w.heap[r]? = some (.map ents clock) ∧ ents.toList.map (fun e => (e.key, e.val)) = es.map (fun p => (Value.int .i64 p.1, p.2))
theorem IM.lt {w : World} {r : Nat} {es : IEnts} (h : IM w r es) : r < w.heap.size := by
  obtain ⟨_, _, h, _⟩ := h
  exact (Array.getElem?_eq_some_iff.1 h).1
theorem IM.below {w w' : World} {r : Nat} {es : IEnts} (h : IM w r es) {B : Nat} (hb : Below B w w') (hr : r < B) : IM w' r es := by
  obtain ⟨ents, clock, h1, h2⟩ := h
  exact ⟨ents, clock, (hb.block r hr).trans h1, h2⟩
theorem IM.set {w : World} {r : Nat} {es : IEnts} (h : IM w r es) (p : Addr) (v : Value) : IM (w.setCell p v) r es := by
  obtain ⟨ents, clock, h1, h2⟩ := h
  refine ⟨ents, clock, ?_, h2⟩
  by_cases hp : r = p.block
  · subst hp
    simp [World.setCell, Array.getElem?_modify, h1]
  · exact (Below.heap_setCell w p v r hp).trans h1

section
variable {P : Program} {w : World} {T K E : TypeId} {r : Nat} {es : IEnts} {a : Int}

theorem find_int : ∀ (ents : List MapEntry) (es : IEnts) (i : Nat), ents.map (fun e => (e.key, e.val)) = es.map (fun p => (Value.int .i64 p.1, p.2)) →
    (∃ k v, ilook es a = some v ∧ findNow (.int .i64) (.int .i64 a) ents i = some (some (k, v))) ∨ (ilook es a = none ∧ findNow (.int .i64) (.int .i64 a) ents i = some none)
  | [], es, i, h => by
    have : es = [] := by simpa using h.symm
    subst this
    exact .inr ⟨rfl, rfl⟩
  | e :: ents, [], i, h => by simp at h
  | e :: ents, p :: es, i, h => by
    simp only [List.map_cons, List.cons.injEq, Prod.mk.injEq] at h
    obtain ⟨⟨h1, h2⟩, h3⟩ := h
    by_cases hp : p.1 = a
    · refine .inl ⟨i, p.2, by simp [ilook, hp], ?_⟩
      simp [findNow, h1, sameNow, hp, h2]
    · have hne : (a == p.1) = false := by simp; omega
      rcases find_int ents es (i + 1) h3 with ⟨k, v, k1, k2⟩ | ⟨k1, k2⟩
      · refine .inl ⟨k, v, by simp [ilook, hp, k1], ?_⟩
        simp [findNow, h1, sameNow, hne, k2]
      · refine .inr ⟨by simp [ilook, hp, k1], ?_⟩
        simp [findNow, h1, sameNow, hne, k2]

theorem check_int (hK : P.underlying K = some (.int .i64)) (em : Bool) : (checkKey em 10000 K (.int .i64 a)).run P w = .ok () w := by
  have h : ∀ d : Nat, (checkKey em (d + 1) K (.int .i64 a)).run P w = .ok () w := fun d => by simp [checkKey, run_underlying hK]
  exact h 9999

theorem im_lookup (hT : P.underlying T = some (.map K E)) (hK : P.underlying K = some (.int .i64)) {z : Value} (hE : (zeroValue E).run P w = .ok z w) (hm : IM w r es) :
    (lookup T (.map (some r)) (.int .i64 a) true).run P w = .ok (.tuple #[(ilook es a).getD z, .bool (ilook es a).isSome]) w := by
  obtain ⟨ents, clock, hh, hm⟩ := hm
  rcases find_int (a := a) ents.toList es 0 hm with ⟨k, v, k1, k2⟩ | ⟨k1, k2⟩
  · simp [lookup, run_underlying hT, run_underlying hK, MapKept.run_getObj_map hh, check_int hK, findKey, k2, k1]
  · simp [lookup, run_underlying hT, run_underlying hK, MapKept.run_getObj_map hh, check_int hK, findKey, k2, k1, hE]

theorem im_lookup1 (hT : P.underlying T = some (.map K E)) (hK : P.underlying K = some (.int .i64)) {z : Value} (hE : (zeroValue E).run P w = .ok z w) (hm : IM w r es) :
    (lookup T (.map (some r)) (.int .i64 a) false).run P w = .ok ((ilook es a).getD z) w := by
  obtain ⟨ents, clock, hh, hm⟩ := hm
  rcases find_int (a := a) ents.toList es 0 hm with ⟨k, v, k1, k2⟩ | ⟨k1, k2⟩
  · simp [lookup, run_underlying hT, run_underlying hK, MapKept.run_getObj_map hh, check_int hK, findKey, k2, k1]
  · simp [lookup, run_underlying hT, run_underlying hK, MapKept.run_getObj_map hh, check_int hK, findKey, k2, k1, hE]

theorem im_update (hT : P.underlying T = some (.map K E)) (hK : P.underlying K = some (.int .i64)) (hm : IM w r es) (ha : ilook es a = none) (v : Value) :
    ∃ w', (mapUpdate T (.map (some r)) (.int .i64 a) v).run P w = .ok () w' ∧ IM w' r (es ++ [(a, v)]) ∧ ∀ B, B ≤ r → Below B w w' := by
  obtain ⟨ents, clock, hh, hm⟩ := hm
  have hrs : r < w.heap.size := (Array.getElem?_eq_some_iff.1 hh).1
  have hbut : ∀ o : Obj, ∀ B, B ≤ r → Below B w { w with heap := w.heap.setIfInBounds r o } := fun o B hB =>
    ⟨rfl, rfl, rfl, by simp, fun k hk => by simp [Array.getElem?_setIfInBounds_ne (show r ≠ k by omega)]⟩
  have hget : ∀ o : Obj, ({ w with heap := w.heap.setIfInBounds r o } : World).heap[r]? = some o := fun o => by simp [hrs]
  rcases find_int (a := a) ents.toList es 0 hm with ⟨k, v, k1, k2⟩ | ⟨k1, k2⟩
  · rw [ha] at k1; cases k1
  · refine ⟨_, ?_, ⟨ents.push { key := .int .i64 a, val := v, born := clock }, clock + 1, hget _, by simp [hm]⟩, hbut _⟩
    simp [mapUpdate, run_underlying hT, run_underlying hK, MapKept.run_getObj_map hh, check_int hK, findKey, k2, MapKept.run_setObj_map _ hh]
end
end Go.Proofs.YtpknegneogdmfaaGreat

namespace Go.Proofs.YtpknegneogdmfaaGreat
open Go.RowKit
set_option maxRecDepth 100000

def valD (d : De) (A : Option Addr) (c : Nat) : Value := .agg #[.int .i64 d.nm, .int .i64 d.ar, .bool d.old, .int .i64 d.op, .int .i64 d.n, .slice A d.k.len c]

/-- The entries are the first functions with their names. -/
def EntOk (w : World) (L B : Nat) (ds : List De) (es : IEnts) : Prop :=
  (∀ x d, inVar x = true → fnd x ds = some d → ∃ A c, ilook es x = some (valD d A c) ∧ Lies w L B A 0 d.k ∧ d.k.len ≤ c ∧ c ≤ maxLen) ∧
  (∀ x, inVar x = false ∨ fnd x ds = none → ilook es x = none)
theorem EntOk.below {w w' : World} {L B : Nat} {ds : List De} {es : IEnts} (h : EntOk w L B ds es) (hb : Below B w w') : EntOk w' L B ds es :=
  ⟨fun x d h1 h2 => let ⟨A, c, a, b, e⟩ := h.1 x d h1 h2; ⟨A, c, a, b.below hb, e⟩, h.2⟩
theorem EntOk.nil (w : World) (L B : Nat) (ds : List De) : EntOk w L B (ds.take 0) [] := ⟨fun x d _ h => by simp [fnd] at h, fun _ _ => rfl⟩
/-- A name that is there already, or that is no function. -/
theorem EntOk.skip {w : World} {L B j : Nat} {ds : List De} {d : De} {es : IEnts} (h : EntOk w L B (ds.take j) es) (hd : ds[j]? = some d) (hk : ilook es d.nm ≠ none ∨ inVar d.nm = false) : EntOk w L B (ds.take (j + 1)) es := by
  have hf := fun x => fnd_take (x := x) hd
  refine ⟨fun x e h1 h2 => ?_, fun x hx => ?_⟩
  · rw [hf x] at h2
    cases h3 : fnd x (ds.take j) with
    | some e' =>
      rw [h3] at h2
      simp at h2
      subst h2
      exact h.1 x e' h1 h3
    | none =>
      rw [h3] at h2
      by_cases hn : d.nm = x
      · rcases hk with hk | hk
        · exact absurd (h.2 d.nm (.inr (by rw [hn]; exact h3))) hk
        · rw [hn, h1] at hk; cases hk
      · simp [hn] at h2
  · rcases hx with hx | hx
    · exact h.2 x (.inl hx)
    · rw [hf x] at hx
      cases h3 : fnd x (ds.take j) with
      | some e' => rw [h3] at hx; simp at hx
      | none => exact h.2 x (.inr h3)
/-- A new name. -/
theorem EntOk.add {w : World} {L B j : Nat} {ds : List De} {d : De} {es : IEnts} {A : Option Addr} {c : Nat} (h : EntOk w L B (ds.take j) es) (hd : ds[j]? = some d) (hk : ilook es d.nm = none) (hv : inVar d.nm = true)
    (hl : Lies w L B A 0 d.k) (h1 : d.k.len ≤ c) (h2 : c ≤ maxLen) : EntOk w L B (ds.take (j + 1)) (es ++ [(d.nm, valD d A c)]) := by
  have hf := fun x => fnd_take (x := x) hd
  have hno : fnd d.nm (ds.take j) = none := by
    cases h3 : fnd d.nm (ds.take j) with
    | none => rfl
    | some e =>
      obtain ⟨A', c', h4, _⟩ := h.1 d.nm e hv h3
      rw [hk] at h4
      cases h4
  refine ⟨fun x e g1 g2 => ?_, fun x hx => ?_⟩
  · rw [hf x] at g2
    rw [ilook_snoc]
    by_cases hn : d.nm = x
    · subst hn
      rw [hno] at g2
      simp at g2
      subst g2
      exact ⟨A, c, by simp [hk], hl, h1, h2⟩
    · rw [if_neg hn] at g2
      simp at g2
      obtain ⟨A', c', h4, h5⟩ := h.1 x e g1 g2
      exact ⟨A', c', by rw [h4]; rfl, h5⟩
  · rw [ilook_snoc]
    by_cases hn : d.nm = x
    · subst hn
      rcases hx with hx | hx
      · rw [hv] at hx; cases hx
      · rw [hf, hno] at hx
        simp at hx
    · rw [if_neg hn]
      have : ilook es x = none := by
        refine h.2 x ?_
        rcases hx with hx | hx
        · exact .inl hx
        · rw [hf x, if_neg hn] at hx
          exact .inr (by simpa using hx)
      rw [this]; rfl

theorem makeMap8_run (W : World) : (Instr.makeMap 64 (some (.int .i64 8))).run Tryz.prog W = .ok (.map (some W.heap.size)) (W.alloc (.map #[] 0)) := by kernel_rfl

/-- The post of defsByName: a new map. -/
def DefsPost (ds : List De) (L B : Nat) (w : World) (e : Ending) (w' : World) : Prop :=
  ∃ es, e = .returned (.map (some w.heap.size)) ∧ IM w' w.heap.size es ∧ EntOk w' L B ds es ∧ Below w.heap.size w w' ∧ w.heap.size < w'.heap.size

set_option maxHeartbeats 2000000 in
theorem defsByName_any (ds : List De) (A : Option Addr) (c : Nat) (w : World) (L B : Nat) (hl : LiesD w L B A ds) (hB : B ≤ w.heap.size) (hsz : ds.length ≤ 1048576) :
    Calls Tryz.prog 33 #[.slice A ds.length c] w (DefsPost ds L B w) := by
  have hmm := makeMap8_run
  have hm0 : IM (w.alloc (Obj.map #[] 0)) w.heap.size [] := ⟨#[], 0, heap_alloc_new _ _, rfl⟩
  have hb0 : Below w.heap.size w (w.alloc (Obj.map #[] 0)) := (Below.refl _ _).alloc (Nat.le_refl _) _
  go_enter Tryz.func33, Tryz.ntmps33
  go_wp2_with fail
  clear hmm
  go_loopw [11] (fun i wr => ∃ (j : Nat) (es : IEnts), j ≤ ds.length ∧ i = .int .i64 j ∧ IM wr w.heap.size es ∧ EntOk wr L B (ds.take j) es ∧ Below w.heap.size w wr ∧ w.heap.size < wr.heap.size)
    (fun i _ => ds.length - (intOf i).toNat)
  case atStart => exact ⟨0, [], by omega, rfl, hm0, EntOk.nil _ _ _ _, hb0, by simp⟩
  case round =>
    clear hm0 hb0
    obtain ⟨j, es, hj, rfl, hm, hent, hb, hlt0⟩ := hrel
    by_cases hlt : j < ds.length
    · have e1 := List.getElem?_eq_getElem hlt
      generalize ds[j] = d at e1
      obtain ⟨b, o, A', c', hA, hLb, hbB, hf, g1, g2, g3, g4, g5, g6, h7, h8, h9⟩ := hl.below (hb.mono hB) j d e1
      subst hA
      have hx := Below.refl wr.heap.size wr |>.alloc (Nat.le_refl _) (Obj.cells #[Value.int IntKind.i64 d.nm, Value.int IntKind.i64 d.ar, Value.bool d.old, Value.int IntKind.i64 d.op, Value.int IntKind.i64 d.n, Value.slice A' d.k.len c'] 38)
      have hm1 := hm.below hx hlt0
      have hlk := im_lookup (P := Tryz.prog) (a := d.nm) Tryz.underlying64 Tryz.underlying3 (show (zeroValue 38).run Tryz.prog (wr.alloc (Obj.cells #[Value.int IntKind.i64 d.nm, Value.int IntKind.i64 d.ar, Value.bool d.old, Value.int IntKind.i64 d.op, Value.int IntKind.i64 d.n, Value.slice A' d.k.len c'] 38)) = .ok (.agg #[.int .i64 0, .int .i64 0, .bool false, .int .i64 0, .int .i64 0, .slice none 0 0]) (wr.alloc (Obj.cells #[Value.int IntKind.i64 d.nm, Value.int IntKind.i64 d.ar, Value.bool d.old, Value.int IntKind.i64 d.op, Value.int IntKind.i64 d.n, Value.slice A' d.k.len c'] 38)) by kernel_rfl) hm1
      have E1 := Lib.hid e1
      have HENT := Lib.hid hent
      have HM := Lib.hid hm
      clear e1 hent hm hm1 hx
      cases hi : ilook es d.nm with
      | some v =>
        rw [hi] at hlk
        simp only [Option.getD_some, Option.isSome_some] at hlk
        have hsk := HENT.out.skip E1.out (.inl (by rw [hi]; simp))
        obtain ⟨d0, A0, c0, rfl⟩ : ∃ d0 A0 c0, v = valD d0 A0 c0 := by
          cases hv0 : inVar d.nm with
          | false => rw [HENT.out.2 d.nm (.inl hv0)] at hi; cases hi
          | true =>
            cases hf0 : fnd d.nm (ds.take j) with
            | none => rw [HENT.out.2 d.nm (.inr hf0)] at hi; cases hi
            | some d0 =>
              obtain ⟨A0, c0, h4, _⟩ := HENT.out.1 d.nm d0 hv0 hf0
              rw [hi] at h4
              exact ⟨d0, A0, c0, Option.some.inj h4⟩
        unfold valD at hlk
        have hb2 : Below wr.heap.size wr ((wr.alloc (Obj.cells #[Value.int IntKind.i64 d.nm, Value.int IntKind.i64 d.ar, Value.bool d.old, Value.int IntKind.i64 d.op, Value.int IntKind.i64 d.n, Value.slice A' d.k.len c'] 38)).alloc (Obj.cells #[Value.int IntKind.i64 d0.nm, Value.int IntKind.i64 d0.ar, Value.bool d0.old, Value.int IntKind.i64 d0.op, Value.int IntKind.i64 d0.n, Value.slice A0 d0.k.len c0] 38)) :=
          ((Below.refl _ _).alloc (Nat.le_refl _) _).alloc (by simp) _
        have HSK := Lib.hid (hsk.below (hb2.mono (Nat.le_trans hB hb.size)))
        have HB := Lib.hid (hb.trans (hb2.mono hb.size))
        have HMM := Lib.hid (HM.out.below hb2 hlt0)
        have HLT := Lib.hid (Nat.lt_of_lt_of_le hlt0 hb2.size)
        clear hi hsk hb2 hb h9 hl
        go_wp2_with fail
        go_roundw
        case rel => exact ⟨j + 1, es, hlt, by go_num, HMM.out, HSK.out, HB.out, HLT.out⟩
        case measure => simp [intOf]; omega
      | none =>
        rw [hi] at hlk
        simp only [Option.getD_none, Option.isSome_none] at hlk
        have HI := Lib.hid hi
        clear hi
        have hr5 := (Row.fresh wr 38 #[Value.int IntKind.i64 d.nm, Value.int IntKind.i64 d.ar, Value.bool d.old, Value.int IntKind.i64 d.op, Value.int IntKind.i64 d.n, Value.slice A' d.k.len c']).alloc (Obj.cells #[Value.int IntKind.i64 0, Value.int IntKind.i64 0, Value.bool false, Value.int IntKind.i64 0, Value.int IntKind.i64 0, Value.slice none 0 0] 38)
        have hb2 : Below wr.heap.size wr ((wr.alloc (Obj.cells #[Value.int IntKind.i64 d.nm, Value.int IntKind.i64 d.ar, Value.bool d.old, Value.int IntKind.i64 d.op, Value.int IntKind.i64 d.n, Value.slice A' d.k.len c'] 38)).alloc (Obj.cells #[Value.int IntKind.i64 0, Value.int IntKind.i64 0, Value.bool false, Value.int IntKind.i64 0, Value.int IntKind.i64 0, Value.slice none 0 0] 38)) :=
          ((Below.refl _ _).alloc (Nat.le_refl _) _).alloc (by simp) _
        have HR5 := Lib.hid hr5
        have HB2 := Lib.hid hb2
        have HB := Lib.hid hb
        clear hr5 hb2 hb
        go_wp2_with fail
        refine (isFun_any d.nm _).mono ?_
        rintro e w5 ⟨rfl, hb5⟩
        have hb6 := HB2.out.trans (hb5.mono HB2.out.size)
        have hr6 := HR5.out.below hb5 HR5.out.size
        have hm6 := HM.out.below hb6 hlt0
        have hent6 := HENT.out.below (hb6.mono (Nat.le_trans hB HB.out.size))
        have h96 := Lib.hid (h9.below (hb6.mono (Nat.le_trans hB HB.out.size)))
        have HB6 := Lib.hid (HB.out.trans (hb6.mono HB.out.size))
        have HLT := Lib.hid (Nat.lt_of_lt_of_le hlt0 hb6.size)
        clear hb5 hb6 HB2 HR5 HENT HM hlk g1 g2 g3 g4 g5 g6 hl h9 HB
        cases hv : inVar d.nm with
        | false =>
          have HSK := Lib.hid (hent6.skip E1.out (.inr hv))
          have HM6 := Lib.hid hm6
          clear hv hent6 hm6 hr6
          go_wp2_with fail
          go_roundw
          case rel => exact ⟨j + 1, es, hlt, by go_num, HM6.out, HSK.out, HB6.out, HLT.out⟩
          case measure => simp [intOf]; omega
        | true =>
          have hadd := hent6.add E1.out HI.out hv h96.out h7 h8
          obtain ⟨w6, hrun, him, hbel⟩ := im_update (P := Tryz.prog) (a := d.nm) Tryz.underlying64 Tryz.underlying3 hm6 HI.out (valD d A' c')
          have HAD := Lib.hid (hadd.below (hbel B hB))
          have HB7 := Lib.hid (HB6.out.trans (hbel w.heap.size (Nat.le_refl _)))
          have HLT7 := Lib.hid (Nat.lt_of_lt_of_le HLT.out (hbel w.heap.size (Nat.le_refl _)).size)
          have HIM := Lib.hid him
          unfold valD at hrun
          have y0 := hr6.cell (i := 0) rfl
          have y1 := hr6.cell (i := 1) rfl
          have y2 := hr6.cell (i := 2) rfl
          have y3 := hr6.cell (i := 3) rfl
          have y4 := hr6.cell (i := 4) rfl
          have y5 := hr6.cell (i := 5) rfl
          clear hv hent6 hm6 hr6 hadd hbel him
          go_wp2_with fail
          go_roundw
          case rel => exact ⟨j + 1, _, hlt, by go_num, HIM.out, HAD.out, HB7.out, HLT7.out⟩
          case measure => simp [intOf]; omega
    · have e9 : ds.length = j := by omega
      rw [← e9, List.take_length] at hent
      go_wp2
      go_ret
      exact ⟨es, rfl, hm, hent, hb, hlt0⟩
end Go.Proofs.YtpknegneogdmfaaGreat

namespace Go.Proofs.YtpknegneogdmfaaGreat
open Go.RowKit Go.Shelf
set_option maxRecDepth 100000

attribute [local go_sem] Oper.semAt_some

/-- What the map knows of the numbers of arguments. -/
def Knows (ari : Int → Option Int) (es : IEnts) : Prop :=
  ∀ x, (ari x = none → ilook es x = none) ∧ ∀ a, ari x = some a → ∃ nm old op n A l c, ilook es x = some (.agg #[.int .i64 nm, .int .i64 a, .bool old, .int .i64 op, .int .i64 n, .slice A l c])
theorem EntOk.knows {w : World} {L B : Nat} {ds : List De} {es : IEnts} (h : EntOk w L B ds es) : Knows (ariI ds) es := by
  intro x
  unfold ariI ariS
  cases hv : inVar x with
  | false => exact ⟨fun _ => h.2 x (.inl hv), fun a ha => by simp at ha⟩
  | true =>
    cases hf : fnd x ds with
    | none => exact ⟨fun _ => h.2 x (.inr hf), fun a ha => by simp at ha⟩
    | some d =>
      obtain ⟨A, c, h1, _⟩ := h.1 x d hv hf
      refine ⟨fun hn => by simp at hn, fun a ha => ?_⟩
      simp at ha
      subst ha
      exact ⟨d.nm, d.old, d.op, d.n, A, d.k.len, c, h1⟩

def allOk (ari : Int → Option Int) (l : List Nx) : Bool := (l.map Nx.nd).all (okQ ari)
theorem allOk_snoc (ari : Int → Option Int) (l : List Nx) (y : Nx) : allOk ari (l ++ [y]) = (allOk ari l && okQ ari y.nd) := by simp [allOk]

set_option maxRecDepth 100000 in
set_option maxHeartbeats 4000000 in
theorem allCallsFit_any (ari : Int → Option Int) (r : Nat) (es : IEnts) (op m : Int) (k : Fo) (A : Option Addr) (c L B : Nat) (w : World) (hm : IM w r es) (hkn : Knows ari es)
    (hl : Lies w L B A 0 k) (hB : B ≤ w.heap.size) (hal : RowsIf w B A k) (hk1 : k.len ≤ c) (hk2 : c ≤ maxLen) (hsz : k.size ≤ 1048576) :
    Calls Tryz.prog 36 #[.map (some r), .agg #[.int .i64 op, .int .i64 m, .slice A k.len c]] w (Gives (.bool (fitN ari op m k)) w) := by
  refine (callsIn_wide (n := 9)).1 ?_
  refine callsIn_of_wp_marks Tryz.func36 rfl trivial ?_ rfl
  simp only [Tryz.ntmps36, List.size_toArray, List.length_cons, List.length_nil, Nat.reduceAdd, Nat.reduceSub, Array.replicate_succ, Array.replicate_zero, List.push_toArray, List.append_toArray, List.nil_append, List.cons_append]
  gi_wp2_with fail
  refine ⟨trivial, (callsIn_wide.2 (nodesOf_any op m k A c 53 #[] _)).mono ?_⟩
  rintro e w1 ⟨rfl, rfl⟩
  gi_wp2_with fail
  obtain ⟨W0, hW0⟩ : ∃ W0, W0 = ((((w.alloc (Obj.cells #[Value.map (some r)] 64)).alloc (Obj.cells #[Value.int .i64 op, Value.int .i64 m, Value.slice A k.len c] 36)).alloc (Obj.cells #[Value.bool false] 4)).alloc (Obj.cells #[Value.int .i64 op, Value.int .i64 m, Value.slice A k.len c] 36)).alloc (Obj.cells #[Value.func (.func 53) #[] #[]] 90) := ⟨_, rfl⟩
  rw [← hW0]
  have hz0 : W0.heap.size = w.heap.size + 1 + 1 + 1 + 1 + 1 := by rw [hW0]; simp
  have hb0 : Below w.heap.size w W0 := by
    rw [hW0]
    exact (((((Below.refl _ _).alloc (Nat.le_refl _) _).alloc (by simp) _).alloc (by simp; omega) _).alloc (by simp; omega) _).alloc (by simp; omega) _
  have rm : Row W0 w.heap.size 64 #[Value.map (some r)] := by
    rw [hW0]
    exact ((((Row.fresh w 64 #[Value.map (some r)]).alloc _).alloc _).alloc _).alloc _
  have rr : Row W0 (w.heap.size + 1 + 1) 4 #[Value.bool false] := by
    rw [hW0]
    have := Row.fresh ((w.alloc (Obj.cells #[Value.map (some r)] 64)).alloc (Obj.cells #[Value.int .i64 op, Value.int .i64 m, Value.slice A k.len c] 36)) 4 #[Value.bool false]
    simp only [World.size_alloc] at this
    exact (this.alloc _).alloc _
  have r1 : Row W0 (w.heap.size + 1 + 1 + 1) 36 #[Value.int .i64 op, Value.int .i64 m, Value.slice A k.len c] := by
    rw [hW0]
    have := Row.fresh (((w.alloc (Obj.cells #[Value.map (some r)] 64)).alloc (Obj.cells #[Value.int .i64 op, Value.int .i64 m, Value.slice A k.len c] 36)).alloc (Obj.cells #[Value.bool false] 4)) 36 #[Value.int .i64 op, Value.int .i64 m, Value.slice A k.len c]
    simp only [World.size_alloc] at this
    exact this.alloc _
  have r2 : Row W0 (w.heap.size + 1 + 1 + 1 + 1) 90 #[Value.func (.func 53) #[] #[]] := by
    rw [hW0]
    have := Row.fresh ((((w.alloc (Obj.cells #[Value.map (some r)] 64)).alloc (Obj.cells #[Value.int .i64 op, Value.int .i64 m, Value.slice A k.len c] 36)).alloc (Obj.cells #[Value.bool false] 4)).alloc (Obj.cells #[Value.int .i64 op, Value.int .i64 m, Value.slice A k.len c] 36)) 90 #[Value.func (.func 53) #[] #[]]
    simp only [World.size_alloc] at this
    exact this
  clear hW0
  have hrw := hm.lt
  refine range_own (X := fun g => g = w.heap.size + 1 + 1) rfl (by omega) (gf := 66) (lb := #[.pointer (some ⟨w.heap.size + 1 + 1 + 1, 0, none⟩), .pointer (some ⟨w.heap.size + 1 + 1 + 1 + 1, 0, none⟩)]) rfl trivial (enters_of Tryz.func66 (by kernel_rfl) rfl)
    (nodes_seqR 8 (fun _ _ => false) op m k A c L B (w.heap.size + 1 + 1 + 1) (w.heap.size + 1 + 1 + 1 + 1) 53 #[] (fun g => g = w.heap.size + 1 + 1) W0 (fun g hg => by omega) (by omega) (by omega) (fun g _ h2 => by omega) r1 (r2.cell (i := 0) rfl)
      (hl.below (hb0.mono hB)) (Nat.le_trans hB hb0.size) (hal.below hb0 hB) hk1 hk2 hsz (enters_of Tryz.func53 (by kernel_rfl) rfl) (fun x i V _ => hideNone_any x.op x.n _ i V))
    (Below.refl _ _) (fun _ => rfl)
    (fun pre W => (Row W (w.heap.size + 1 + 1) 4 #[Value.bool false] ∧ Row W w.heap.size 64 #[Value.map (some r)] ∧ allOk ari pre = true) ∧ Below w.heap.size w W)
    (fun c' pre W => (c' = .ret ∧ allOk ari pre = false ∧ Row W (w.heap.size + 1 + 1) 4 #[Value.bool false]) ∧ Below w.heap.size w W)
    (fun s V V' ⟨⟨x1, x3, x4⟩, x2⟩ hb => ⟨⟨x1.below hb (by omega), x3.below hb (by omega), x4⟩, x2.trans (hb.mono (by omega))⟩)
    (fun _ s V V' ⟨⟨x1, x3, x4⟩, x2⟩ hb => ⟨⟨x1, x3, x4.below hb (by omega)⟩, x2.trans (hb.mono (by omega))⟩) ⟨⟨rr, rm, rfl⟩, hb0⟩
    (fun y a' V => ∃ Bx, W0.heap.size ≤ Bx ∧ Row V Bx 36 #[Value.int .i64 y.op, Value.int .i64 y.n, Value.slice y.A y.k.len y.c] ∧ a' = { tmps := #[.map (some r), .agg #[.int .i64 op, .int .i64 m, .slice A k.len c], .pointer (some ⟨w.heap.size, 0, none⟩), .pointer (some ⟨w.heap.size + 1, 0, none⟩), .pointer (some ⟨w.heap.size + 1 + 1, 0, none⟩),
      .pointer (some ⟨Bx, 0, none⟩), undef, undef, .agg #[.int .i64 op, .int .i64 m, .slice A k.len c],
      .func (.func 66) #[] #[.pointer (some ⟨w.heap.size + 1 + 1 + 1, 0, none⟩), .pointer (some ⟨w.heap.size + 1 + 1 + 1 + 1, 0, none⟩)], y.val, undef, undef, undef, undef, undef, undef, undef, undef, undef, undef, undef, undef, undef, undef, undef, undef, undef, undef, undef, undef], defers := [] })
    (fun y a' V V' ⟨Bx, h1, h2, h3⟩ hk => ⟨Bx, h1, hk.row h2 (by omega), h3⟩) ?assign ?body ?done ?stop
  case assign =>
    intro l pre y W K hsW hi hK
    unfold Nx.val
    gi_wp2
    exact hK _ _ ((Below.refl _ _).alloc (Nat.le_refl _) _) ⟨W.heap.size, by omega, Row.fresh _ _ _, rfl⟩
  case body =>
    rintro l pre y a' W _ ⟨⟨hr, hrm, hall⟩, hb⟩ ⟨Bx, hBx, hrx, rfl⟩ hlen
    clear hz0
    have y0 := hrx.cell (i := 0) rfl
    have hsn : allOk ari (pre ++ [y]) = okQ ari y.nd := by
      rw [allOk_snoc, hall, Bool.true_and]
    have HSN := Lib.hid hsn
    clear hsn hall
    by_cases h3 : y.op = 3
    · have y1 := hrx.cell (i := 1) rfl
      have y2 := hrx.cell (i := 2) rfl
      have m0 := hrm.cell (i := 0) rfl
      have f0 := hr.free 0
      have v0 := hr.cell (i := 0) rfl
      have hz := World.block_lt_of_cell? _ _ y0
      have hlk := im_lookup (P := Tryz.prog) (a := y.n) Tryz.underlying64 Tryz.underlying3 (show (zeroValue 38).run Tryz.prog W = .ok (.agg #[.int .i64 0, .int .i64 0, .bool false, .int .i64 0, .int .i64 0, .slice none 0 0]) W by kernel_rfl) (hm.below hb hrw)
      have H3 := Lib.hid h3
      have hok : okQ ari y.nd = decide (ari y.n = some (y.k.len : Int)) := by simp [okQ, okCall, Nx.nd, h3]
      have HOK := Lib.hid (HSN.out.trans hok)
      clear hok HSN
      cases ha : ari y.n with
      | none =>
        have HF := Lib.hid (show allOk ari (pre ++ [y]) = false by rw [HOK.out, ha]; rfl)
        rw [(hkn y.n).1 ha] at hlk
        simp only [Option.getD_none, Option.isSome_none] at hlk
        have ba := (Below.refl W.heap.size W).alloc (Nat.le_refl _) (Obj.cells #[Value.int .i64 0, Value.int .i64 0, Value.bool false, Value.int .i64 0, Value.int .i64 0, Value.slice none 0 0] 38)
        have hrA := Lib.hid (hr.alloc (Obj.cells #[Value.int .i64 0, Value.int .i64 0, Value.bool false, Value.int .i64 0, Value.int .i64 0, Value.slice none 0 0] 38))
        have v1 := hrA.out.cell (i := 0) rfl
        have f1 := hrA.out.free 0
        have HB := Lib.hid (hb.trans (ba.mono hb.size))
        have HK := Lib.hid (KeepsFrom.of_below (B := W0.heap.size) ba (Nat.le_refl _))
        clear ha HOK hb ba hr hrm
        gi_wp2_with fail
        exact ⟨HK.out.trans ((KeepsOthers.setCell _ _ _).from _), ⟨rfl, HF.out, hrA.out.put 0 (.bool false)⟩, HB.out.setCell (by simp; omega) _⟩
      | some x =>
        obtain ⟨nm, old, op', n', A', l', c', hi⟩ := (hkn y.n).2 x ha
        rw [hi] at hlk
        simp only [Option.getD_some, Option.isSome_some] at hlk
        have ba := (Below.refl W.heap.size W).alloc (Nat.le_refl _) (Obj.cells #[Value.int .i64 nm, Value.int .i64 x, Value.bool old, Value.int .i64 op', Value.int .i64 n', Value.slice A' l' c'] 38)
        have hxA := hrx.alloc (Obj.cells #[Value.int .i64 nm, Value.int .i64 x, Value.bool old, Value.int .i64 op', Value.int .i64 n', Value.slice A' l' c'] 38)
        have z2 := hxA.cell (i := 2) rfl
        have hrA := Lib.hid (hr.alloc (Obj.cells #[Value.int .i64 nm, Value.int .i64 x, Value.bool old, Value.int .i64 op', Value.int .i64 n', Value.slice A' l' c'] 38))
        have hmA := Lib.hid (hrm.alloc (Obj.cells #[Value.int .i64 nm, Value.int .i64 x, Value.bool old, Value.int .i64 op', Value.int .i64 n', Value.slice A' l' c'] 38))
        have v1 := hrA.out.cell (i := 0) rfl
        have f1 := hrA.out.free 0
        have HB := Lib.hid (hb.trans (ba.mono hb.size))
        have HK := Lib.hid (KeepsFrom.of_below (B := W0.heap.size) ba (Nat.le_refl _))
        have HKC := Lib.hid (KC.of_below (X := fun g => g = w.heap.size + 1 + 1) ba)
        by_cases hx : x = (y.k.len : Int)
        · have HT := Lib.hid (show allOk ari (pre ++ [y]) = true by rw [HOK.out, ha, hx]; simp)
          have t2 : (x != (y.k.len : Int)) = false := by simp [hx]
          clear ha HOK hb ba hr hrm hxA hi hx
          gi_wp2_with fail
          exact ⟨HK.out, HKC.out, ⟨hrA.out, hmA.out, HT.out⟩, HB.out⟩
        · have HF := Lib.hid (show allOk ari (pre ++ [y]) = false by rw [HOK.out, ha]; simp [hx])
          have t2 : (x != (y.k.len : Int)) = true := by simpa using hx
          clear ha HOK hb ba hr hrm hxA hi
          gi_wp2_with fail
          exact ⟨HK.out.trans ((KeepsOthers.setCell _ _ _).from _), ⟨rfl, HF.out, hrA.out.put 0 (.bool false)⟩, HB.out.setCell (by simp; omega) _⟩
    · have HT := Lib.hid (show allOk ari (pre ++ [y]) = true by rw [HSN.out]; simp [okQ, okCall, Nx.nd, h3])
      have h4 : (y.op != 3) = true := by simpa using h3
      clear HSN
      gi_wp2_with fail
      exact ⟨KeepsFrom.refl _ _, KC.refl _ _, ⟨hr, hrm, HT.out⟩, hb⟩
  case done =>
    rintro D ys W hD hS ⟨⟨hr, _, hall⟩, hb⟩ hK
    have HF := Lib.hid (show fitN ari op m k = true by rw [← hall]; unfold allOk; rw [hS, all_ordN])
    have v0 := hr.cell (i := 0) rfl
    have f0 := hr.free 0
    clear hall hS
    gi_wp2
    have hK' := (KeepsOthers.setCell W ⟨w.heap.size + 1 + 1, 0, none⟩ (.bool true)).same D _ hK rfl
    refine ⟨by simp, .inl ⟨_, _, rfl, run_takeDeferred hK', ?_⟩⟩
    have hc5 := cell_kept (World.cell?_setCell_same' W ⟨w.heap.size + 1 + 1, 0, none⟩ (.bool true) (by rw [v0]; rfl)) (grownBy_putObj' _ D (.deferred none)) (fun r e => by cases e; exact ⟨_, hK', rfl⟩)
    refine ⟨.bool true, ?_, by rw [HF.out], (hb.setCell (p := ⟨w.heap.size + 1 + 1, 0, none⟩) (by simp; omega) _).trans (below_put _ hK' (by omega))⟩
    simp [results, Tryz.f36, go_sem, hc5]
  case stop =>
    rintro D c' pre W hD hpre ⟨⟨rfl, hall, hr⟩, hb⟩ hK
    obtain ⟨rest, hrest⟩ := hpre
    have HF := Lib.hid (show fitN ari op m k = false by rw [← all_ordN ari ⟨op, m, k⟩, ← hrest, List.all_append]; unfold allOk at hall; rw [hall]; rfl)
    gi_wp2
    refine ⟨by simp, .inl ⟨_, _, rfl, run_takeDeferred hK, ?_⟩⟩
    have hc5 := cell_kept (hr.cell (i := 0) rfl) (grownBy_putObj' _ D (.deferred none)) (fun r e => by cases e; exact ⟨_, hK, rfl⟩)
    refine ⟨.bool false, ?_, by rw [HF.out], hb.trans (below_put _ hK (by omega))⟩
    simp [results, Tryz.f36, go_sem, hc5]
end Go.Proofs.YtpknegneogdmfaaGreat

namespace Go.Proofs.YtpknegneogdmfaaGreat
open Go.RowKit
set_option maxRecDepth 100000

/-- All call names of a well-formed tree are functions: both ways to look a function up agree. -/
theorem fit_of_shape (ds : List De) : ∀ (f : Fo) (op n : Int) (i : Nat) (S : Nat → Bool) (d : Nat), shapeF op n i S d f = true → fitF (ariI ds) f = fitF (ariS ds) f
  | .nil, _, _, _, _, _, _ => rfl
  | .cons o m k r, op, n, i, S, d, h => by
    simp only [shapeF, Bool.and_eq_true] at h
    obtain ⟨⟨⟨⟨h1, h2⟩, h3⟩, h4⟩, h5⟩ := h
    have e1 := fit_of_shape ds k o m 0 _ _ h4
    have e2 := fit_of_shape ds r op n (i + 1) S d h5
    have e3 : okCall (ariI ds) o m k.len = okCall (ariS ds) o m k.len := by
      unfold okCall
      by_cases ho : o = 3
      · subst ho
        have hv : inVar m = true := by simpa [ownOk] using h3
        simp [ariI, hv]
      · simp [ho]
    simp only [fitF, e1, e2, e3]
theorem fit_of_is {ds : List De} {op n : Int} {k : Fo} {S : Nat → Bool} (h : nodeIs op n k S = true) : fitN (ariI ds) op n k = fitN (ariS ds) op n k := by
  unfold nodeIs nodeShape at h
  simp only [Bool.and_eq_true] at h
  obtain ⟨⟨⟨⟨h1, h2⟩, h3⟩, h4⟩, h5⟩ := h
  have e1 := fit_of_shape ds k op n 0 S _ h4
  have e3 : okCall (ariI ds) op n k.len = okCall (ariS ds) op n k.len := by
    unfold okCall
    by_cases ho : op = 3
    · subst ho
      have hv : inVar n = true := by simpa [ownOk] using h3
      simp [ariI, hv]
    · simp [ho]
  simp only [fitN, e1, e3]
end Go.Proofs.YtpknegneogdmfaaGreat

namespace Go.Proofs.YtpknegneogdmfaaGreat
open Go.RowKit
set_option maxRecDepth 100000

def callsFitB (ds : List De) (op n : Int) (k : Fo) : Bool := nodeIs op n k (firstS 8) && fitN (ariS ds) op n k

set_option maxHeartbeats 2000000 in
theorem implCallsFit_r (ds : List De) (DA : Option Addr) (DC : Nat) (op n : Int) (k : Fo) (A : Option Addr) (c L B : Nat) (w : World) (hd : LiesD w 0 w.heap.size DA ds) (hl : Lies w L B A 0 k) (hB : B ≤ w.heap.size)
    (hds : ds.length ≤ 1048576) (hk1 : k.len ≤ c) (hk2 : c ≤ maxLen) (hsz : k.size ≤ 1048576) :
    Calls Tryz.prog 37 #[.slice DA ds.length DC, .agg #[.int .i64 op, .int .i64 n, .slice A k.len c]] w (Gives (.bool (callsFitB ds op n k)) w) := by
  have hb0 : Below w.heap.size w (w.alloc (Obj.cells #[Value.int IntKind.i64 op, Value.int IntKind.i64 n, Value.slice A k.len c] 36)).drew := ((Below.refl _ _).alloc (Nat.le_refl _) _).drew
  have hr0 := (Row.fresh w 36 #[Value.int IntKind.i64 op, Value.int IntKind.i64 n, Value.slice A k.len c]).drew
  have hlen := Fo.len_le_size k
  have q0 := hr0.cell (i := 0) rfl
  have q1 := hr0.cell (i := 1) rfl
  have q2 := hr0.cell (i := 2) rfl
  have HA := Lib.hid (validOpen_any op n k A c _ ((hl.mono_ (Nat.zero_le _) hB).up hb0) (Nat.le_trans hk1 hk2))
  have HB0 := Lib.hid hb0
  have hz0 : w.heap.size < (w.alloc (Obj.cells #[Value.int IntKind.i64 op, Value.int IntKind.i64 n, Value.slice A k.len c] 36)).drew.heap.size := by simp
  have HZ0 := Lib.hid hz0
  have HL := Lib.hid hl
  have HD := Lib.hid hd
  clear hb0 hr0 hz0 hl hd
  unfold callsFitB
  cases hv : nodeIs op n k (firstS 8) with
  | false =>
    rw [hv] at HA
    rw [Bool.false_and]
    clear hv
    go_enter Tryz.func37, Tryz.ntmps37
    go_wp2_with fail
    first
      | (go_region_with (first
        | (go_at_call 54
           refine HA.out.mono ?_
           rintro e w3 ⟨rfl, hb3⟩
           have y0 := (hb3.cell (p := ⟨w.heap.size, 0, none⟩) HZ0.out).trans q0
           have y1 := (hb3.cell (p := ⟨w.heap.size, 1, none⟩) HZ0.out).trans q1
           have y2 := (hb3.cell (p := ⟨w.heap.size, 2, none⟩) HZ0.out).trans q2)))
      | fail
    all_goals
      have hb4 := HB0.out.trans (hb3.mono HB0.out.size)
      clear hb3 q0 q1 q2 y0 y1 y2 HB0 HA
      go_wp2
      go_ret
      exact ⟨rfl, hb4⟩
  | true =>
    rw [hv] at HA
    rw [Bool.true_and]
    have hfit : fitN (ariI ds) op n k = fitN (ariS ds) op n k := fit_of_is hv
    have HSM := Lib.hid (show smallOk k 14 80 = true by rw [nodeIs_eq, Bool.and_eq_true] at hv; exact hv.1)
    clear hv
    rw [← hfit]
    clear hfit
    generalize hz : fitN (ariI ds) op n k = z
    have HZ := Lib.hid hz
    clear hz
    go_enter Tryz.func37, Tryz.ntmps37
    go_wp2_with fail
    go_region_with (first
        | (go_at_call 54
           refine HA.out.mono ?_
           rintro e w3 ⟨rfl, hb3⟩
           have y0 := (hb3.cell (p := ⟨w.heap.size, 0, none⟩) HZ0.out).trans q0
           have y1 := (hb3.cell (p := ⟨w.heap.size, 1, none⟩) HZ0.out).trans q1
           have y2 := (hb3.cell (p := ⟨w.heap.size, 2, none⟩) HZ0.out).trans q2)
        | (go_at_call 33
           refine (defsByName_any ds DA DC w3 0 w.heap.size (HD.out.below (HB0.out.trans (hb3.mono HB0.out.size))) (Nat.le_trans HB0.out.size hb3.size) hds).mono ?_
           rintro e w4 ⟨es, rfl, hm4, hent4, hb4, hlt4⟩
           have u0 := (hb4.cell (p := ⟨w.heap.size, 0, none⟩) (Nat.lt_of_lt_of_le HZ0.out hb3.size)).trans y0
           have u1 := (hb4.cell (p := ⟨w.heap.size, 1, none⟩) (Nat.lt_of_lt_of_le HZ0.out hb3.size)).trans y1
           have u2 := (hb4.cell (p := ⟨w.heap.size, 2, none⟩) (Nat.lt_of_lt_of_le HZ0.out hb3.size)).trans y2)
        | (go_at_call 36
           refine (allCallsFit_any (ariI ds) w3.heap.size es op n k A c L B w4 hm4 hent4.knows
             ((HL.out.below (HB0.out.mono hB)).below ((hb3.trans (hb4.mono hb3.size)).mono (Nat.le_trans hB HB0.out.size))) (Nat.le_trans hB (Nat.le_trans HB0.out.size (Nat.le_trans hb3.size hb4.size)))
             (RowsIf.small HSM.out) hk1 hk2 hsz).mono ?_
           rintro e w5 ⟨rfl, hb5⟩
           have s0 := (hb5.cell (p := ⟨w.heap.size, 0, none⟩) (Nat.lt_of_lt_of_le (Nat.lt_of_lt_of_le HZ0.out hb3.size) hb4.size)).trans u0
           have s1 := (hb5.cell (p := ⟨w.heap.size, 1, none⟩) (Nat.lt_of_lt_of_le (Nat.lt_of_lt_of_le HZ0.out hb3.size) hb4.size)).trans u1
           have s2 := (hb5.cell (p := ⟨w.heap.size, 2, none⟩) (Nat.lt_of_lt_of_le (Nat.lt_of_lt_of_le HZ0.out hb3.size) hb4.size)).trans u2))
    all_goals
      rw [HZ.out]
      have hb45 := hb3.trans ((hb4.trans (hb5.mono hb4.size)).mono hb3.size)
      have hb6 := HB0.out.trans (hb45.mono HB0.out.size)
      clear hb3 hb4 hb5 hb45 hm4 hent4 hlt4 q0 q1 q2 y0 y1 y2 u0 u1 u2 s0 s1 s2 HB0 HA HL HD HZ0
      go_wp2
      go_ret
      exact ⟨rfl, hb6⟩
end Go.Proofs.YtpknegneogdmfaaGreat



namespace Go.Proofs.YtpknegneogdmfaaGreat
open Go.RowKit
set_option maxRecDepth 100000

end Go.Proofs.YtpknegneogdmfaaGreat

namespace Go.Proofs.YtpknegneogdmfaaGreat
open Go.RowKit
set_option maxRecDepth 100000

def upto : Nat → List Int
  | 0 => []
  | j + 1 => upto j ++ [(j : Int)]
theorem upto_len : ∀ j, (upto j).length = j
  | 0 => rfl
  | j + 1 => by simp [upto, upto_len j]
theorem upto_mem : ∀ (j : Nat) (x : Int), x ∈ upto j ↔ 0 ≤ x ∧ x < j
  | 0, x => by simp only [upto, List.not_mem_nil, false_iff]; omega
  | j + 1, x => by simp [upto, upto_mem j x]; omega

theorem argumentsOf_any (d : De) (A : Option Addr) (c : Nat) (w : World) (r : Nat) (hr : d.ar = (r : Int)) (h3 : r ≤ 3) :
    Calls Tryz.prog 35 #[.agg #[.int .i64 d.nm, .int .i64 d.ar, .bool d.old, .int .i64 d.op, .int .i64 d.n, .slice A d.k.len c]] w fun e w' =>
      ∃ v, e = .returned v ∧ w'.ownsRow w.heap.size 3 1 v (upto r).length ((upto r).map (Value.int .i64)) ∧ Below w.heap.size w w' := by
  obtain ⟨nm, ar, old, op, n, k⟩ := d
  dsimp only at *
  subst hr
  go_enter Tryz.func35, Tryz.ntmps35
  go_wp2_with fail
  have own0 : (w.alloc (Obj.cells #[Value.int IntKind.i64 nm, Value.int IntKind.i64 (r : Int), Value.bool old, Value.int IntKind.i64 op, Value.int IntKind.i64 n, Value.slice A k.len c] 38)).ownsRow w.heap.size 3 1 (.slice none 0 0) (upto 0).length ((upto 0).map (Value.int .i64)) := World.ownsRow_nil _ _ _ _
  have hb0 : Below w.heap.size w (w.alloc (Obj.cells #[Value.int IntKind.i64 nm, Value.int IntKind.i64 (r : Int), Value.bool old, Value.int IntKind.i64 op, Value.int IntKind.i64 n, Value.slice A k.len c] 38)) := (Below.refl _ _).alloc (Nat.le_refl _) _
  go_loopw [3, 7] (fun v i wr => ∃ (j : Nat), j ≤ r ∧ i = .int .i64 j ∧ wr.ownsRow w.heap.size 3 1 v (upto j).length ((upto j).map (Value.int .i64)) ∧ Below w.heap.size w wr)
    (fun _ i _ => r - (intOf i).toNat)
  case atStart => exact ⟨0, by omega, rfl, own0, hb0⟩
  case round =>
    clear own0 hb0
    obtain ⟨j, hj, rfl, hown, hb3⟩ := hrel
    by_cases hlt : j < r
    · have HO2 := Lib.hid hown
      have hlen : (upto j).length = j := upto_len j
      obtain ⟨iT, hiT, hiz0, hiz1, hiz2⟩ := info_parts (show (Tryz.prog.info? 3).map (fun i => (i.zero, i.size, i.bytes)) = some (some (.int .i64 0), 1, 8) by kernel_rfl)
      have HIT := Lib.hid hiT
      have HIZ0 := Lib.hid hiz0
      have HIZ1 := Lib.hid hiz1
      have HIZ2 := Lib.hid hiz2
      have C1 := Lib.hid (fresh_cells wr 3 #[Value.int .i64 (j : Int)])
      have HC2 := Lib.hid (show ∀ u ∈ [Value.int .i64 (j : Int)], u.oneCell' = true by intro u hu; rw [List.mem_singleton.1 hu]; rfl)
      have HC3 := Lib.hid (show (upto j).length + 1 ≤ maxLen by unfold maxLen; omega)
      have HC4 := Lib.hid (show ((upto j).length + 1) * 8 ≤ 140737488355328 by omega)
      have HC5 := Lib.hid (show w.heap.size ≤ (wr.alloc (.cells #[Value.int .i64 (j : Int)] 3)).heap.size by have := hb3.size; rw [World.size_alloc]; omega)
      have HOA := Lib.hid (HO2.out.alloc (.cells #[Value.int .i64 (j : Int)] 3))
      clear hiT hiz0 hiz1 hiz2 hown hlen
      go_wp2_with (at_builtin; refine wpList_append_own_at _ rfl _ _ 27 rfl w.heap.size 3 iT _ 1 8 Tryz.underlying27 HIT.out HIZ0.out HIZ1.out HIZ2.out rfl (by decide) _ _ _ rfl HOA.out ⟨wr.heap.size, 0, none⟩ 1 1 [Value.int .i64 (j : Int)] rfl rfl C1.out HC2.out HC3.out HC4.out HC5.out ?_; intro v' w' hown5 hgrow5 _ hblk)
      have hb5 : Below w.heap.size w w' := Below.grown (hb3.alloc hb3.size (.cells #[Value.int .i64 (j : Int)] 3)) hgrow5 HC5.out (fun g' hg' => own_at_least HO2.out hg')
      have HO5 := Lib.hid hown5
      clear hown5 hgrow5 hblk
      go_wp2_with fail
      go_roundw
      case rel =>
        refine ⟨j + 1, hlt, by go_num, ?_, hb5⟩
        show w'.ownsRow w.heap.size 3 1 v' (upto j ++ [(j : Int)]).length ((upto j ++ [(j : Int)]).map (Value.int .i64))
        rw [List.length_append, List.map_append]
        exact HO5.out
      case measure => simp [intOf]; omega
    · have e9 : j = r := by omega
      subst e9
      go_wp2
      go_ret
      exact ⟨_, rfl, hown, hb3⟩
end Go.Proofs.YtpknegneogdmfaaGreat

namespace Go.Proofs.YtpknegneogdmfaaGreat
open Go.RowKit
set_option maxRecDepth 100000

/-- The order of the names. -/
def ascB (prev : Option Int) (x : Int) : Bool := match prev with | none => true | some p => decide (p < x)
def arOk (d : De) : Bool := decide (0 ≤ d.ar) && decide (d.ar ≤ 3)
def bodyOk (ds : List De) (d : De) : Bool := nodeIs d.op d.n d.k (firstS d.ar.toNat) && fitN (ariS ds) d.op d.n d.k
def headOk (prev : Option Int) (d : De) : Bool := inVar d.nm && arOk d && ascB prev d.nm
def okL (ds : List De) (prev : Option Int) : List De → Bool
  | [] => true
  | d :: r => (headOk prev d && bodyOk ds d) && okL ds (some d.nm) r
def libOk (ds : List De) : Bool := decide (ds.length ≤ 8) && okL ds none ds
def prevAt (ds : List De) (j : Nat) : Option Int := if j = 0 then none else (ds[j - 1]?).map (·.nm)
theorem prevAt_succ {ds : List De} {j : Nat} {d : De} (h : ds[j]? = some d) : prevAt ds (j + 1) = some d.nm := by simp [prevAt, h]
theorem okL_at {ds : List De} {j : Nat} {d : De} (h : ds[j]? = some d) : okL ds (prevAt ds j) (ds.drop j) = ((headOk (prevAt ds j) d && bodyOk ds d) && okL ds (prevAt ds (j + 1)) (ds.drop (j + 1))) := by
  rw [drop_at h, prevAt_succ h]; rfl

theorem scope_upto (r : Nat) : scopeOf (upto r) = firstS r := by
  funext i
  unfold scopeOf firstS
  rw [Bool.eq_iff_iff]
  simp only [decide_eq_true_eq, upto_mem]
  omega
theorem allVars_upto (r : Nat) (h : r ≤ 8) : allVars (upto r) = true := by
  unfold allVars
  rw [List.all_eq_true]
  intro x hx
  have := (upto_mem r x).1 hx
  exact inVar_mk this.1 (by omega)
theorem validOf_upto (op n : Int) (k : Fo) (r : Nat) (h : r ≤ 8) : validOf op n k (upto r) = nodeIs op n k (firstS r) := by
  unfold validOf
  rw [allVars_upto r h, scope_upto, Bool.true_and]
end Go.Proofs.YtpknegneogdmfaaGreat

namespace Go.Proofs.YtpknegneogdmfaaGreat
open Go.RowKit
set_option maxRecDepth 100000

/-- Each function stands under its own name, and all names are functions. -/
def Named (ds : List De) : Prop := ∀ d ∈ ds, inVar d.nm = true ∧ fnd d.nm ds = some d

theorem inVar_nat {x : Int} (h : inVar x = true) : ((x.toNat : Nat) : Int) = x ∧ x.toNat < 8 := by
  unfold inVar at h
  simp at h
  omega

theorem fnd_mem {x : Int} {ds : List De} {d : De} (h : fnd x ds = some d) : d ∈ ds ∧ d.nm = x := by
  unfold fnd at h
  have h2 := List.find?_some h
  exact ⟨List.mem_of_find?_eq_some h, by simpa using h2⟩
-- a valid library
theorem okL_named {ds : List De} : ∀ (r : List De) (p : Option Int), okL ds p r = true → ∀ d ∈ r, inVar d.nm = true ∧ bodyOk ds d = true ∧ fnd d.nm r = some d ∧ (∀ q, p = some q → q < d.nm)
  | [], _, _, d, hd => by simp at hd
  | d0 :: r, p, h, d, hd => by
    have e : okL ds p (d0 :: r) = ((headOk p d0 && bodyOk ds d0) && okL ds (some d0.nm) r) := rfl
    rw [e, Bool.and_eq_true, Bool.and_eq_true] at h
    obtain ⟨⟨h1, h2⟩, h3⟩ := h
    unfold headOk at h1
    rw [Bool.and_eq_true, Bool.and_eq_true] at h1
    obtain ⟨⟨hv, _⟩, ha⟩ := h1
    have hp : ∀ q, p = some q → q < d0.nm := by
      intro q hq
      subst hq
      exact of_decide_eq_true ha
    rcases List.mem_cons.1 hd with rfl | hd
    · exact ⟨hv, h2, by rw [fnd_cons, if_pos rfl], hp⟩
    · obtain ⟨g1, g2, g3, g4⟩ := okL_named r (some d0.nm) h3 d hd
      have hlt := g4 _ rfl
      refine ⟨g1, g2, ?_, fun q hq => by have := hp q hq; omega⟩
      rw [fnd_cons, if_neg (by omega)]
      exact g3
theorem libOk_named {ds : List De} (h : libOk ds = true) : Named ds := by
  unfold libOk at h
  rw [Bool.and_eq_true] at h
  exact fun d hd => let ⟨a, _, b, _⟩ := okL_named ds none h.2 d hd; ⟨a, b⟩
theorem libOk_small {ds : List De} (h : libOk ds = true) : ∀ d ∈ ds, smallOk d.k 14 80 = true := by
  unfold libOk at h
  rw [Bool.and_eq_true] at h
  intro d hd
  obtain ⟨_, hb, _⟩ := okL_named ds none h.2 d hd
  unfold bodyOk at hb
  rw [Bool.and_eq_true, nodeIs_eq, Bool.and_eq_true] at hb
  exact hb.1.1
theorem callsFit_small {ds : List De} {op n : Int} {k : Fo} (h : callsFitB ds op n k = true) : smallOk k 14 80 = true := by
  unfold callsFitB at h
  rw [Bool.and_eq_true, nodeIs_eq, Bool.and_eq_true] at h
  exact h.1.1
theorem libOk_body {ds : List De} (h : libOk ds = true) : ∀ d ∈ ds, fitN (ariS ds) d.op d.n d.k = true := by
  unfold libOk at h
  rw [Bool.and_eq_true] at h
  intro d hd
  obtain ⟨_, hb, _⟩ := okL_named ds none h.2 d hd
  unfold bodyOk at hb
  rw [Bool.and_eq_true] at hb
  exact hb.2
theorem libOk_len {ds : List De} (h : libOk ds = true) : ds.length ≤ 8 := by
  unfold libOk at h
  rw [Bool.and_eq_true] at h
  exact of_decide_eq_true h.1

theorem implCallsFit_any (ds : List De) (DA : Option Addr) (DC : Nat) (op n : Int) (k : Fo) (A : Option Addr) (c L B : Nat) (w : World) (hd : LiesD w 0 w.heap.size DA ds) (hl : Lies w L B A 0 k) (hB : B ≤ w.heap.size) (_hal : AllRows w L B)
    (hds : ds.length ≤ 1048576) (hk1 : k.len ≤ c) (hk2 : c ≤ maxLen) (hsz : k.size ≤ 1048576) :
    Calls Tryz.prog 37 #[.slice DA ds.length DC, .agg #[.int .i64 op, .int .i64 n, .slice A k.len c]] w (Gives (.bool (callsFitB ds op n k)) w) := implCallsFit_r ds DA DC op n k A c L B w hd hl hB hds hk1 hk2 hsz
end Go.Proofs.YtpknegneogdmfaaGreat
