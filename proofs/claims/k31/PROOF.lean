import PyProof.Rows.All
import Wide.All
import OpenK.AllK
import Wide.FinOn
import HandS.ForMost
import HandS.IsInst
import HandS.EndBits
import HandS.Wide
import HandS.WideBits
import HandS.TupAny
import HandS.Codes
import HandS.Defaults
import HandS.ForExc
import HandS.TryMany
import HandS.ExcIs
import HandS.TryElse
import HandS.DictComp
import HandS.Walk
import HandS.FStr
import HandS.Text
import HandS.TupLe
import HandS.TupMul
import HandS.Deep
import HandS.Steps
import HandS.CallLocal
import PySem.Challenge.RW_majordomo_k31_transactions_that_are_none
set_option Elab.async false
set_option linter.all false
set_option maxRecDepth 100000
set_option maxHeartbeats 4000000

namespace My
open PySem PySem.Spec PyProof.Rows L2
/-! own words: tests, heaps, items -/
theorem ifd {p A B : Prop} [Decidable p] (h1 : p → A) (h2 : ¬ p → B) : if decide p = true then A else B := by
  by_cases h : p
  · rw [decide_eq_true h]; exact (if_pos rfl).mpr (h1 h)
  · rw [decide_eq_false h]; exact (if_neg Bool.false_ne_true).mpr (h2 h)
theorem ifn {p A B : Prop} [Decidable p] (h1 : ¬ p → A) (h2 : p → B) : if (!decide p) = true then A else B := by
  by_cases h : p
  · rw [decide_eq_true h]; exact (if_neg Bool.false_ne_true).mpr (h2 h)
  · rw [decide_eq_false h]; exact (if_pos rfl).mpr (h1 h)
theorem ift {p A B : Prop} [Decidable p] (h : p) (h1 : A) : if decide p = true then A else B := by
  rw [decide_eq_true h]; exact (if_pos rfl).mpr h1
theorem iff0 {p A B : Prop} [Decidable p] (h : ¬ p) (h1 : B) : if decide p = true then A else B := by
  rw [decide_eq_false h]; exact (if_neg Bool.false_ne_true).mpr h1
theorem ifnt {p A B : Prop} [Decidable p] (h : p) (h1 : B) : if (!decide p) = true then A else B := by
  rw [decide_eq_true h]; exact (if_neg Bool.false_ne_true).mpr h1
theorem ifbt {b : Bool} {A B : Prop} (h : b = true) (h1 : A) : if b = true then A else B := (if_pos h).mpr h1
theorem ifbf {b : Bool} {A B : Prop} (h : b = false) (h1 : B) : if b = true then A else B := by rw [h]; exact h1
theorem ifb2 {b : Bool} {A B : Prop} (h1 : b = true → A) (h2 : b = false → B) : if b = true then A else B := by
  cases b with
  | true => exact h1 rfl
  | false => exact h2 rfl
theorem same_upd {H : Hp} {p : Addr} {o : HO} (h : H p = none) : Same H (upd H p o) := fun b x e => by
  rw [upd_ne (ne_of_none e h)]
  exact e
theorem same_put {H H' : Hp} {p : Addr} {o : HO} (e : Same H H') (h : H p = none) : Same H (upd H' p o) := fun b x q => by
  rw [upd_ne (ne_of_none q h)]
  exact e b x q
theorem sqt_same {K : PySem.W.Frag} {H H' : Hp} {a : Addr} {xs : List V} (e : Same H H') (h : SqT K H a xs) : SqT K H' a xs := by
  rcases h with (h | ⟨o, h⟩) | h
  · exact .inl (.inl (e _ _ h))
  · exact .inl (.inr ⟨o, e _ _ h⟩)
  · exact .inr h
theorem sql {K : PySem.W.Frag} {H : Hp} {a : Addr} {xs : List V} (h : H a = some (.lst xs)) : SqL K H a xs := .inl (.inl h)
theorem sqt {K : PySem.W.Frag} {H : Hp} {a : Addr} {xs : List V} (h : H a = some (.tup xs)) : SqT K H a xs := .inl (.inl h)
theorem sz {n : Nat} (h : n ≤ 100000) : n ≤ sizeLine := Nat.le_trans h (by decide)
theorem szl {n : Nat} (h : n ≤ 100000) : n < sizeLine := Nat.lt_of_le_of_lt h (by decide)
theorem map_at {α : Type} {f : α → V} {xs : List α} {i : Nat} {y : V} (h : (xs.map f)[i]? = some y) : ∃ x, xs[i]? = some x ∧ y = f x := by
  rw [List.getElem?_map] at h
  cases e : xs[i]? with
  | none => rw [e] at h; cases h
  | some x => rw [e] at h; exact ⟨x, rfl, (Option.some.inj h).symm⟩
theorem at_map {α : Type} {f : α → V} {xs : List α} {i : Nat} {x : α} (h : xs[i]? = some x) : atI (xs.map f) (i : Int) = some (f x) := atI_nat (by rw [List.getElem?_map, h]; rfl)
theorem take_more {α : Type} {l : List α} {i : Nat} {x : α} (h : l[i]? = some x) : l.take (i + 1) = l.take i ++ [x] := by
  rw [List.take_add_one, h]; rfl
/-! deep data stands as long as what was tracked stands -/
mutual
theorem dp_same {K : PySem.W.Frag} {H H' : Hp} (e : Same H H') : ∀ (d : PyData) {v : V}, Dp K H v d → Dp K H' v d
  | _, _, .non => .non
  | _, _, .bl b => .bl b
  | _, _, .int i => .int i
  | _, _, .str x => .str x
  | .list ds, _, .lst h a => .lst (e.seq h) (dpa_same e ds a)
  | .tuple ds, _, .tup h a => .tup (sqt_same e h) (dpa_same e ds a)
theorem dpa_same {K : PySem.W.Frag} {H H' : Hp} (e : Same H H') : ∀ (ds : List PyData) {vs : List V}, DpAll K H vs ds → DpAll K H' vs ds
  | [], _, .nil => .nil
  | d :: ds, _, .cons h a => .cons (dp_same e d h) (dpa_same e ds a)
end
theorem dpa_len {K : PySem.W.Frag} {H : Hp} : ∀ {vs : List V} {ds : List PyData}, DpAll K H vs ds → vs.length = ds.length
  | _, _, .nil => rfl
  | _, _, .cons _ a => by rw [List.length_cons, List.length_cons, dpa_len a]
theorem dpa_at {K : PySem.W.Frag} {H : Hp} : ∀ {vs : List V} {ds : List PyData} {i : Nat} {v : V}, DpAll K H vs ds → vs[i]? = some v → ∃ d, ds[i]? = some d ∧ Dp K H v d
  | _, _, _, _, .nil, h => by simp at h
  | _, _, 0, _, .cons h _, e => ⟨_, rfl, by have := Option.some.inj e; subst this; exact h⟩
  | _, _, i + 1, _, .cons _ a, e => dpa_at (i := i) a (by simpa using e)
theorem dpa_app {K : PySem.W.Frag} {H : Hp} : ∀ {vs ws : List V} {ds es : List PyData}, DpAll K H vs ds → DpAll K H ws es → DpAll K H (vs ++ ws) (ds ++ es)
  | _, _, _, _, .nil, b => b
  | _, _, _, _, .cons h a, b => .cons h (dpa_app a b)
theorem eqv_self {d : PyData} (h : SeqAt.shaped d = true) : PyData.eqv d d = true := SeqAt.eqv_refl d (SeqAt.canLay_of_shaped h)
/-! data that may be compared -/
theorem layAll : ∀ {ds : List PyData}, (∀ d ∈ ds, d.canLay0 = true) → PyData.canLayAll0 ds = true
  | [], _ => rfl
  | d :: ds, h => by
    rw [PyData.canLayAll0, h d List.mem_cons_self, layAll fun e he => h e (List.mem_cons_of_mem _ he)]; rfl
theorem depAll {n : Nat} : ∀ {ds : List PyData}, (∀ d ∈ ds, d.depth ≤ n) → PyData.depthAll ds ≤ n
  | [], _ => Nat.zero_le _
  | d :: ds, h => by
    have h1 := h d List.mem_cons_self
    have h2 := depAll (ds := ds) fun e he => h e (List.mem_cons_of_mem _ he)
    simp only [PyData.depthAll]
    omega
/-- plain data of at most this depth -/
def Flat (n : Nat) (d : PyData) : Prop := d.canLay0 = true ∧ d.depth ≤ n
theorem flat_list {n : Nat} {ds : List PyData} (h : ∀ d ∈ ds, Flat n d) : Flat (n + 1) (.list ds) :=
  ⟨by rw [PyData.canLay0]; exact layAll fun d hd => (h d hd).1, by have := depAll (n := n) fun d hd => (h d hd).2; simp only [PyData.depth]; omega⟩
theorem flat_tup {n : Nat} {ds : List PyData} (h : ∀ d ∈ ds, Flat n d) : Flat (n + 1) (.tuple ds) :=
  ⟨by rw [PyData.canLay0]; exact layAll fun d hd => (h d hd).1, by have := depAll (n := n) fun d hd => (h d hd).2; simp only [PyData.depth]; omega⟩
theorem flat_int (n : Nat) (i : Int) : Flat n (.int i) := ⟨rfl, by simp [PyData.depth]⟩
theorem flat_str (n : Nat) (x : Str) (h : (PyData.str x).canLay0 = true := by decide +kernel) : Flat n (.str x) := ⟨h, by simp [PyData.depth]⟩
theorem flat_bl (n : Nat) (b : Bool) : Flat n (.bool b) := ⟨rfl, by simp [PyData.depth]⟩
theorem flat_non (n : Nat) : Flat n .none := ⟨rfl, by simp [PyData.depth]⟩
theorem Flat.mono {n m : Nat} {d : PyData} (h : Flat n d) (hm : n ≤ m) : Flat m d := ⟨h.1, Nat.le_trans h.2 hm⟩
theorem Flat.sh {n : Nat} {d : PyData} (h : Flat n d) (hn : n ≤ 64) : SeqAt.shaped d = true := by
  show (d.canLay0 && decide (d.depth ≤ 64)) = true
  rw [Bool.and_eq_true]
  exact ⟨h.1, decide_eq_true (Nat.le_trans h.2 hn)⟩
theorem tyx_t {K : PySem.W.Frag} {H : Hp} {a : Addr} {xs : List V} (h : SqT K H a xs) : TyX K H (.ref a) (.type "tuple") := by
  rcases h with (h | ⟨o, h⟩) | ⟨o, its, n, h, hc, _⟩
  · exact .base (.tup h)
  · exact .fTuple h
  · exact .kTuple h hc
theorem tyx_l {K : PySem.W.Frag} {H : Hp} {a : Addr} {xs : List V} (h : SqL K H a xs) : TyX K H (.ref a) (.type "list") := by
  rcases h with (h | ⟨o, h⟩) | ⟨o, its, n, h, hc, _⟩
  · exact .base (.lst h)
  · exact .base (.frz h)
  · exact .kList h hc
theorem same_both {G H : Hp} {t : Addr} {x : HO} (e : Same G H) : Same (upd G t x) (upd H t x) := fun b o h => by
  by_cases hb : b = t
  · subst hb; rw [upd_same] at h ⊢; exact h
  · rw [upd_ne hb] at h ⊢; exact e b o h
theorem set_self {α : Type} : ∀ {l : List α} {i : Nat} {x : α}, l[i]? = some x → l.set i x = l
  | [], i, x, h => by simp at h
  | a :: l, 0, x, h => by
    have e : a = x := Option.some.inj h
    subst e
    rfl
  | a :: l, i + 1, x, h => by
    show a :: l.set i x = a :: l
    rw [set_self (by simpa using h)]
theorem ixn {n j : Nat} {i : Int} (hi : i = (j : Int)) (hj : j < n) : ixN n i = some j := by
  unfold ixN
  rw [if_pos (by omega), if_pos (by omega)]
  congr 1
  omega
/-! shifts and masks in place -/
section
variable {X : Cx}
theorem ip_shr : PIp X .RShift (fun x y H Q => ∃ (i : Int) (k : Nat), x = .int i ∧ y = .int (k : Int) ∧ Q (.int (i / 2 ^ k)) H) := by
  intro pins s σ H x y v u Q I r1 r2 h
  obtain ⟨i, k, e1, e2, q⟩ := h
  subst e1; subst e2
  obtain ⟨t, rfl⟩ := r1
  obtain ⟨t', rfl⟩ := r2
  refine irshift_int (Int.natCast_nonneg k) ⟨.int _, H, I.tok _, ⟨_, rfl⟩, ?_⟩
  rw [Int.toNat_natCast, Int.fdiv_eq_ediv_of_nonneg _ (Int.le_of_lt (Int.pow_pos (by decide)))]
  exact q
theorem ip_or : PIp X .BitOr (fun x y H Q => ∃ (r a : Int) (k : Nat), x = .int r ∧ y = .int (a * 2 ^ k) ∧ (0 ≤ a ∧ 0 ≤ r ∧ r < 2 ^ k) ∧ Q (.int (r + a * 2 ^ k)) H) := by
  intro pins s σ H x y v u Q I r1 r2 h
  obtain ⟨r, a, k, e1, e2, ⟨h0, h1, h2⟩, q⟩ := h
  subst e1; subst e2
  obtain ⟨t, rfl⟩ := r1
  obtain ⟨t', rfl⟩ := r2
  refine ior_int ⟨.int _, H, I.tok _, ⟨_, rfl⟩, ?_⟩
  have e : Builtin.bitOr r (a * 2 ^ k) = r + a * 2 ^ k := by
    have hp : (0 : Int) ≤ a * 2 ^ k := Int.mul_nonneg h0 (Int.le_of_lt (Int.pow_pos (by decide)))
    rw [bitOr_nn h1 hp, Nat.or_comm, ← bitOr_nn hp h1, or_low h0 h1 h2, Int.add_comm]
  rw [e]
  exact q
end
theorem bits_small : ∀ n : Nat, n < 128 → Builtin.Int.intBits (n : Int) ≤ 8 := by decide +kernel
/-- isinstance(e, c) of the error that a suite holds, its class known by the reading -/
theorem call_isE1 {X : Cx} {a D : Addr} {oe : Obj} {cls : Value} {d : Option Addr} {pn : List (Addr × Obj)} (C : ExcC X.K D) (hz : Zc cls d oe) (hf : ∃ vs, oe.data = .fields vs) :
    CallR (X.suite a ((a, oe) :: pn)) (.builtin "isinstance") (fun xs H Q => cls = .ref D ∧ d = none ∧ rIsE X.K D a xs H Q) := fun pins s σ H xs us Q I r h => by
  obtain ⟨h1, h2, h⟩ := h
  subst h1
  subst h2
  exact call_isE C hz hf pins s σ H xs us Q I r h
/-! slices -/
theorem sIx_le {n d : Nat} {i : Nat} : HT.sIx n d (some (i : Int)) = min i n := HT.sIx_nat n d i
theorem cut0n (xs : List V) (j : Nat) : cutV xs none (some (j : Int)) = xs.take j := by
  unfold cutV
  rw [sIx_le, HT.sIx_none, List.drop_zero, Nat.sub_zero]
  exact (List.take_eq_take_min).symm
theorem cutnn (xs : List V) (i j : Nat) : cutV xs (some (i : Int)) (some (j : Int)) = (xs.drop i).take (j - i) := by
  unfold cutV
  rw [sIx_le, sIx_le]
  by_cases hi : i ≤ xs.length
  · rw [Nat.min_eq_left hi]
    by_cases hj : j ≤ xs.length
    · rw [Nat.min_eq_left hj]
    · rw [Nat.min_eq_right (by omega), List.take_of_length_le (by rw [List.length_drop]; omega), List.take_of_length_le (by rw [List.length_drop]; omega)]
  · have e : min i xs.length = xs.length := by omega
    rw [e, List.drop_of_length_le (Nat.le_refl _), List.drop_of_length_le (show xs.length ≤ i by omega), List.take_nil, List.take_nil]
theorem cut_ints (ns : List Int) {i j : Nat} {a b : Int} (ha : a = i) (hb : b = j) : cutV (ns.map V.int) (some a) (some b) = ((ns.drop i).take (j - i)).map V.int := by
  rw [ha, hb, cutnn, ← List.map_drop, ← List.map_take]
theorem rep_ints (ns : List Int) (k : Nat) : (List.replicate k (ns.map V.int)).flatten = (List.replicate k ns).flatten.map V.int := by
  rw [List.map_flatten, List.map_replicate]
/-- [e for x in a slice], e changes nothing -/
theorem lc_cut {K : PySem.W.Frag} {wi : TI} {te : TE} {s : Nat} {σ : L2.St} {H : Hp} {Q : VK} (xs : List V) (f : V → V)
    (hwi : ∀ R : It → Hp → Prop, (∀ p, H p = none → R (Itl K p) (upd H p (.lst xs))) → wi σ H R) (hlen : xs.length ≤ 90000)
    (hw : ∀ x, wipe ((wipe σ [s]).set s (some x)) [s] = wipe σ [s])
    (he : ∀ (i : Nat) (x : V) (G : Hp) (Q' : VK), xs[i]? = some x → Same H G → Q' (f x) G → te ((wipe σ [s]).set s (some x)) G Q')
    (k : ∀ D H', H D = none → Same H H' → H' D = some (.lst (xs.map f)) → Q (.ref D) H') : tLc wi (gName s) tYes te [s] σ H Q := by
  refine hwi _ fun p hp D hD => ?_
  have nD : D ≠ p := fun z => by rw [z, upd_same] at hD; cases hD
  have hD0 : H D = none := by rw [upd_ne nD] at hD; exact hD
  refine lc_list (K := K) (a := p) (xs := xs) (fun i H' => Same H H' ∧ H' p = some (.lst xs) ∧ H' D = some (.lst ((xs.take i).map f)))
    ⟨(same_upd hp).trans (same_upd hD), by rw [upd_ne nD.symm, upd_same], by rw [upd_same]; rfl⟩ (fun i H' _ h => sql h.2.1) (fun i x G hx hG => ?_) (fun G hG => ?_)
  · refine ⟨hw x, ?_⟩
    refine he i x G _ hx hG.1 ⟨_, hG.2.2, szl (by rw [List.length_map, List.length_take]; omega), same_put hG.1 hD0, by rw [upd_ne nD.symm]; exact hG.2.1, ?_⟩
    rw [upd_same, take_more hx, List.map_append]
    rfl
  · refine k D G hD0 hG.1 ?_
    rw [List.take_length] at hG
    exact hG.2.2
/-- lists of ints as data -/
theorem dpa_ints {K : PySem.W.Frag} {H : Hp} : ∀ ns : List Int, DpAll K H (ns.map V.int) (ns.map PyData.int)
  | [] => .nil
  | n :: ns => .cons (.int n) (dpa_ints ns)
theorem dp_ints {K : PySem.W.Frag} {H : Hp} {a : Addr} {ns : List Int} (h : SqL K H a (ns.map V.int)) : Dp K H (.ref a) (.list (ns.map PyData.int)) := .lst h (dpa_ints ns)
theorem flat_ints (ns : List Int) : Flat 1 (.list (ns.map PyData.int)) := flat_list (n := 0) fun d hd => by
  obtain ⟨i, _, rfl⟩ := List.mem_map.mp hd
  exact flat_int _ _
theorem flat_tints (ns : List Int) : Flat 1 (.tuple (ns.map PyData.int)) := flat_tup (n := 0) fun d hd => by
  obtain ⟨i, _, rfl⟩ := List.mem_map.mp hd
  exact flat_int _ _
theorem eqvAll_ints : ∀ xs ys : List Int, PyData.eqvAll (xs.map .int) (ys.map .int) = decide (xs = ys)
  | [], [] => rfl
  | [], _ :: _ => rfl
  | _ :: _, [] => rfl
  | x :: xs, y :: ys => by
    show ((x == y) && PyData.eqvAll (xs.map .int) (ys.map .int)) = _
    rw [eqvAll_ints xs ys, Bool.eq_iff_iff]
    simp
theorem eqv_ints (xs ys : List Int) : PyData.eqv (.list (xs.map .int)) (.list (ys.map .int)) = decide (xs = ys) := eqvAll_ints xs ys
theorem eqv_tints (xs ys : List Int) : PyData.eqv (.tuple (xs.map .int)) (.tuple (ys.map .int)) = decide (xs = ys) := eqvAll_ints xs ys
/-- a def with defaults that lets nothing out -/
theorem okD {P : Program} {w : World} {K : PySem.W.Frag} {mg : Str → Option Value} {base : Heap} {x qual : Str} {params : Arguments} {body : List Stmt} {scope : Scope} {dvs : List V} {kws : List (Str × V)} {f : Addr} {fd : FuncData} {N ps : List Str} {k : Nat} {sp : Sp}
    (F : FunD K x qual params body scope dvs kws f fd) (S : FnScope N ps scope) (len : ∀ vs H Q E, sp vs H Q E → vs.length = ps.length)
    (hb : ∀ (cdv : Value) (A : Around) (outer : List Env) (s : Shared) (H : Hp) (vs : List V) (Q : VK) (E : XK), Room k (A.deeper (envOfC qual scope s.heap.objs.size f cdv)) → sp vs H Q E →
      ∃ t, PSs (cxOf CX0 P w K mg base N qual scope f cdv A outer s H E).nox body t ∧ t { nx := fun _ H' => Q .non H', rt := Q } (start N vs) H) : FnOk P w K mg base CX0 (k + 1) f fd ps sp :=
  F.ok S len fun cdv A outer s H vs Q E hr h => by
    obtain ⟨t, h1, q⟩ := hb cdv A outer s H vs Q E hr h
    exact ⟨t, h1.nox, q⟩
/-! what an expression gives, whatever stands besides -/
def EI (te : TE) (σ : L2.St) (H : Hp) (v : V) : Prop := ∀ G, Same H G → ∀ Q : VK, Q v G → te σ G Q
def EA (ta : TA) (σ : L2.St) (H : Hp) (vs : List V) : Prop := ∀ G, Same H G → ∀ Q : List V → Hp → Prop, Q vs G → ta σ G Q
/-- a list, new or old -/
def EL (te : TE) (σ : L2.St) (H : Hp) (xs : List V) : Prop := ∀ G, Same H G → ∀ Q : VK, (∀ p G', Same G G' → G' p = some (.lst xs) → Q (.ref p) G') → te σ G Q
section
variable {K : PySem.W.Frag} {σ : L2.St} {H : Hp} {ta tb te : TE} {x y z v : V} {xs ys : List V}
theorem ei_var {i : Nat} (h : σ[i]? = some (some v)) : EI (tVar i) σ H v := fun _ _ _ q => ⟨v, h, q⟩
theorem ei_c : EI (tC v) σ H v := fun _ _ _ q => q
theorem ei_op {r : R2} (ha : EI ta σ H x) (hb : EI tb σ H y) (hr : ∀ G, Same H G → ∀ Q : VK, Q z G → r x y G Q) : EI (tOp r ta tb) σ H z := fun G s Q q => ha G s _ (hb G s _ (hr G s Q q))
theorem ei_i0 {g : Int → Int → V} {i j : Int} (ha : EI ta σ H (.int i)) (hb : EI tb σ H (.int j)) : EI (tOp (rI0 g) ta tb) σ H (g i j) := ei_op ha hb fun _ _ _ q => ⟨i, j, rfl, rfl, q⟩
theorem ei_ic {C : Int → Int → Prop} {g : Int → Int → V} {i j : Int} (ha : EI ta σ H (.int i)) (hb : EI tb σ H (.int j)) (hc : C i j) : EI (tOp (rI C g) ta tb) σ H (g i j) := ei_op ha hb fun _ _ _ q => ⟨i, j, rfl, rfl, hc, q⟩
theorem ea_nil : EA tNil σ H [] := fun _ _ _ q => q
theorem ea_cons {tr : TA} {vs : List V} (h : EI ta σ H x) (g : EA tr σ H vs) : EA (tCons ta tr) σ H (x :: vs) := fun G s _ q => h G s _ (g G s _ q)
theorem ei_cb {r : List V → Hp → VK → Prop} {tr : TA} {vs : List V} (ha : EA tr σ H vs) (hr : ∀ G, Same H G → ∀ Q : VK, Q z G → r vs G Q) : EI (tCB r tr) σ H z := fun G s Q q => ha G s _ (hr G s Q q)
/-- len of a list, list(..) of a list or a tuple, as they are read -/
def rLen (K : PySem.W.Frag) : List V → Hp → VK → Prop := fun xs H Q => ∃ p ys, xs = [.ref p] ∧ (SqL K H p ys ∨ SqT K H p ys) ∧ Q (.int ys.length) H
def rLst (K : PySem.W.Frag) : List V → Hp → VK → Prop := fun xs H Q => ∃ p ys, xs = [.ref p] ∧ (SqL K H p ys ∨ SqT K H p ys) ∧ ∀ l, H l = none → Q (.ref l) (upd H l (.lst ys))
def rTup (K : PySem.W.Frag) : List V → Hp → VK → Prop := fun xs H Q => ∃ p ys, xs = [.ref p] ∧ ((SqL K H p ys ∧ ∀ l, H l = none → Q (.ref l) (upd H l (.tup ys))) ∨ (SqT K H p ys ∧ Q (.ref p) H))
theorem callK_tuple {X : Cx} (h : X.K = K) : CallR X (.type "tuple") (rTup K) := by subst h; exact call_tuple_of
theorem callK_list {X : Cx} (h : X.K = K) : CallR X (.type "list") (rLst K) := by subst h; exact call_list_of
theorem opK_catA {X : Cx} (h : X.K = K) : OpR X (binaryOp .Add) (rCatA K) := by subst h; exact op_catA
theorem ixK_list {X : Cx} (h : X.K = K) : IxR X (rIxL K) := by subst h; exact ix_list
theorem ixK_tup {X : Cx} (h : X.K = K) : IxR X (rIxT K) := by subst h; exact ix_tup
theorem pe_fldK {X : Cx} {e : Expr} {f : Str} {pos : Pos} {ta : TE} (h : X.K = K) (he : PE X e ta) (hb : attributeBase e f X.env (eval e X.env) = eval e X.env) : PE X (.Attribute e f pos) (tFld K ta f) := by subst h; exact pe_fld he hb
theorem callK_len {X : Cx} (h : X.K = K) : CallR X (.builtin "len") (rLen K) := by subst h; exact call_len_seq
theorem ei_lenL {i : Nat} {p : Addr} (h : σ[i]? = some (some (.ref p))) (e : SqL K H p xs) : EI (tCB (rLen K) (tCons (tVar i) tNil)) σ H (.int (xs.length : Int)) := ei_cb (ea_cons (ei_var h) ea_nil) fun _ s _ q => ⟨p, xs, rfl, .inl (s.seq e), q⟩
theorem ei_lenT {i : Nat} {p : Addr} (h : σ[i]? = some (some (.ref p))) (e : SqT K H p xs) : EI (tCB (rLen K) (tCons (tVar i) tNil)) σ H (.int (xs.length : Int)) := ei_cb (ea_cons (ei_var h) ea_nil) fun _ s _ q => ⟨p, xs, rfl, .inr (sqt_same s e), q⟩
theorem ei_fld {i : Nat} {p C dx : Addr} {fs : List (Str × V)} {f : Str} (h : σ[i]? = some (some (.ref p))) (hp : H p = some (.ins C dx fs)) (c : Cls K C) (n : NoAttr K C f) (l : fs.lookup f = some v) : EI (tFld K (tVar i) f) σ H v := fun _ s _ q => ⟨.ref p, h, p, C, dx, fs, v, rfl, s _ _ hp, c, n, l, q⟩
theorem ei_din {td : TE} {d : Addr} {kvs : List (Key × V)} {k : Key} (hy : EI te σ H (kV k)) (hd : EI td σ H (.ref d)) (e : H d = some (.dK kvs)) : EI (tDIn te td) σ H (.bl (valV kvs k).isSome) := fun G s _ q => hy G s _ (hd G s _ ⟨d, _, rfl, DGet.k (s _ _ e), q⟩)
theorem ei_dnotin {td : TE} {d : Addr} {kvs : List (Key × V)} {k : Key} (hy : EI te σ H (kV k)) (hd : EI td σ H (.ref d)) (e : H d = some (.dK kvs)) : EI (tDNotIn te td) σ H (.bl (!(valV kvs k).isSome)) := fun G s _ q => hy G s _ (hd G s _ ⟨d, _, rfl, DGet.k (s _ _ e), q⟩)
theorem ei_dget {td : TE} {d : Addr} {kvs : List (Key × V)} {k : Key} (hy : EI te σ H (kV k)) (hd : EI td σ H (.ref d)) (e : H d = some (.dK kvs)) (hv : valV kvs k = some v) : EI (tDGet td te) σ H v := fun G s _ q => hd G s _ (hy G s _ ⟨d, v, rfl, by rw [← hv]; exact DGet.k (s _ _ e), q⟩)
theorem ei_ixL {p : Addr} {j : Int} (ha : EI ta σ H (.ref p)) (hi : EI tb σ H (.int j)) (e : SqL K H p xs) (h : atI xs j = some v) : EI (tOp (rIxL K) ta tb) σ H v := ei_op ha hi fun _ s _ q => ⟨p, xs, j, v, rfl, rfl, s.seq e, h, q⟩
theorem ei_ixT {p : Addr} {j : Int} (ha : EI ta σ H (.ref p)) (hi : EI tb σ H (.int j)) (e : SqT K H p xs) (h : atI xs j = some v) : EI (tOp (rIxT K) ta tb) σ H v := ei_op ha hi fun _ s _ q => ⟨p, xs, j, v, rfl, rfl, sqt_same s e, h, q⟩
theorem ei_eq (ha : EI ta σ H x) (hb : EI tb σ H y) (h : scal x y = true) : EI (tOp rEq ta tb) σ H (.bl (decide (x = y))) := ei_op ha hb fun _ _ _ q => ⟨h, q⟩
theorem ei_ne (ha : EI ta σ H x) (hb : EI tb σ H y) (h : scal x y = true) : EI (tOp rNe ta tb) σ H (.bl (!decide (x = y))) := ei_op ha hb fun _ _ _ q => ⟨h, q⟩
/-- a test by its value -/
theorem tt_use {b : Bool} {Q : Bool → Hp → Prop} (h : EI te σ H (.bl b)) (k : Q b H) : tTest te σ H Q := h H (Same.refl _) _ ⟨b, rfl, k⟩
theorem tb_use {b : Bool} {Q : Bool → Hp → Prop} (h : EI te σ H (.bl b)) (k : Q b H) : tB te σ H Q := h H (Same.refl _) _ ⟨b, rfl, k⟩
theorem el_var {i : Nat} {p : Addr} (h : σ[i]? = some (some (.ref p))) (e : H p = some (.lst xs)) : EL (tVar i) σ H xs := fun G s _ q => ⟨.ref p, h, q p G (Same.refl _) (s _ _ e)⟩
/-- a new list -/
def EN (te : TE) (σ : L2.St) (H : Hp) (xs : List V) : Prop := ∀ G, Same H G → ∀ Q : VK, (∀ p G', G p = none → Same G G' → G' p = some (.lst xs) → Q (.ref p) G') → te σ G Q
theorem EN.el (h : EN te σ H xs) : EL te σ H xs := fun G s Q q => h G s Q fun p G' _ => q p G'
theorem en_lst {tr : TA} {vs : List V} (ha : EA tr σ H vs) (hl : vs.length ≤ 90000) : EN (tLst tr) σ H vs := fun G s _ q => ha G s _ ⟨sz (by omega), fun p hp => q p _ hp (same_upd hp) upd_same⟩
theorem en_cat (ha : EL ta σ H xs) (hb : EL tb σ H ys) (hl : xs.length + ys.length ≤ 90000) : EN (tOp rCat ta tb) σ H (xs ++ ys) := fun G s _ q =>
  ha G s _ fun p G1 s1 e1 => hb G1 (s.trans s1) _ fun p2 G2 s2 e2 => ⟨p, p2, xs, ys, rfl, rfl, s2 _ _ e1, e2, sz (by omega), fun p3 h3 => q p3 _ ((s1.trans s2).free h3) ((s1.trans s2).trans (same_upd h3)) upd_same⟩
theorem en_rep {k : Int} (ha : EL ta σ H xs) (hb : EI tb σ H (.int k)) (h1 : -1000000 ≤ k) (h2 : k ≤ 1000000) (hl : xs.length * k.toNat ≤ 90000) : EN (tOp rRep ta tb) σ H (List.replicate k.toNat xs).flatten := fun G s _ q =>
  ha G s _ fun p G1 s1 e1 => hb G1 (s.trans s1) _ ⟨p, k, xs, rfl, rfl, e1, by omega, by omega, sz (by omega), fun p3 h3 => q p3 _ (s1.free h3) (s1.trans (same_upd h3)) upd_same⟩
theorem el_lst {tr : TA} {vs : List V} (ha : EA tr σ H vs) (hl : vs.length ≤ 90000) : EL (tLst tr) σ H vs := (en_lst ha hl).el
theorem el_cat (ha : EL ta σ H xs) (hb : EL tb σ H ys) (hl : xs.length + ys.length ≤ 90000) : EL (tOp rCat ta tb) σ H (xs ++ ys) := (en_cat ha hb hl).el
theorem el_rep {k : Int} (ha : EL ta σ H xs) (hb : EI tb σ H (.int k)) (h1 : -1000000 ≤ k) (h2 : k ≤ 1000000) (hl : xs.length * k.toNat ≤ 90000) : EL (tOp rRep ta tb) σ H (List.replicate k.toNat xs).flatten := (en_rep ha hb h1 h2 hl).el
theorem el_cb {r : List V → Hp → VK → Prop} {tr : TA} {vs : List V} (ha : EA tr σ H vs) (hr : ∀ G, Same H G → ∀ Q : VK, (∀ p G', Same G G' → G' p = some (.lst xs) → Q (.ref p) G') → r vs G Q) : EL (tCB r tr) σ H xs := fun G s Q q => ha G s _ (hr G s Q q)
theorem el_call {sp : Sp} {dvs : List V} {E : XK} {tr : TA} {vs : List V} (ha : EA tr σ H vs) (hr : ∀ G, Same H G → ∀ Q : VK, (∀ p G', Same G G' → G' p = some (.lst xs) → Q (.ref p) G') → sp (vs ++ dvs) G Q E) : EL (tCall sp dvs E tr) σ H xs := fun G s Q q => ha G s _ (hr G s Q q)
theorem el_listL {i : Nat} {p : Addr} (h : σ[i]? = some (some (.ref p))) (e : SqL K H p xs) : EL (tCB (rLst K) (tCons (tVar i) tNil)) σ H xs := el_cb (ea_cons (ei_var h) ea_nil) fun _ s _ q => ⟨p, xs, rfl, .inl (s.seq e), fun l hl => q l _ (same_upd hl) upd_same⟩
theorem el_listT {i : Nat} {p : Addr} (h : σ[i]? = some (some (.ref p))) (e : SqT K H p xs) : EL (tCB (rLst K) (tCons (tVar i) tNil)) σ H xs := el_cb (ea_cons (ei_var h) ea_nil) fun _ s _ q => ⟨p, xs, rfl, .inr (sqt_same s e), fun l hl => q l _ (same_upd hl) upd_same⟩
/-- x = an expression that gives a list -/
theorem EL.use {Q : VK} (h : EL te σ H xs) (k : ∀ p H', Same H H' → H' p = some (.lst xs) → Q (.ref p) H') : te σ H Q := h H (Same.refl _) Q k
theorem EN.use {Q : VK} (h : EN te σ H xs) (k : ∀ p H', H p = none → Same H H' → H' p = some (.lst xs) → Q (.ref p) H') : te σ H Q := h H (Same.refl _) Q k
theorem EI.use {Q : VK} (h : EI te σ H v) (k : Q v H) : te σ H Q := h H (Same.refl _) Q k
end
/-- defaults: what is bound where keywords give the rest -/
theorem kb_one {K : PySem.W.Frag} {x qual : Str} {params : Arguments} {body : List Stmt} {scope : Scope} {dvs : List V} {f : Addr} {fd : FuncData} {ps : List Str} (F : FunD K x qual params body scope dvs [] f fd) (n : Nat) (ks : List Str) (hd : dvs ≠ [])
    (h : ∀ (T : Addr) (kV doc pm : Value) (an : Option Addr) (cdv ct : Value) (us ws its : List Value), us.length = n → ws.length = ks.length → its.length = dvs.length →
      ∃ k, bindArgs (PySem.W.fnOf x qual params body scope (.ref T) kV doc pm an cdv ct) ⟨us, ks.zip ws⟩ = seqItems? (.ref T) >>= k ∧ k (some its.toArray) = pure (ps.zip (us ++ ws))) :
    KBn K fd ps n ks (fun us ws => us ++ ws) (fun vs zs => vs ++ zs) := by
  obtain ⟨oc, od, dV, kV, doc, pm, an, cdv, ct, osl, rfl, lk, hcd, hD, hK⟩ := F.ex
  rcases hD with ⟨e, _⟩ | ⟨_, T, o, its, m, rfl, lT, oT, rT⟩
  · exact absurd e hd
  · refine ⟨fun s us ws X h1 h2 => BindsTo.of_looks fun M => ?_, fun r1 r2 => r1.append r2⟩
    obtain ⟨k, e1, e2⟩ := h T kV doc pm an cdv ct us ws its h1 h2 rT.length.symm
    rw [e1]
    exact looks_items X lT oT (.of_pure e2)
theorem andV_use {ta tb : TE} {σ : L2.St} {H : Hp} {Q : VK} {x y : Bool} (h1 : EI ta σ H (.bl x)) (h2 : x = true → ∀ Q' : VK, (∀ H', Same H H' → Q' (.bl y) H') → tb σ H Q') (k : ∀ H', Same H H' → Q (.bl (x && y)) H') : tAndV ta tb σ H Q := by
  refine h1 H (Same.refl _) _ ⟨x, rfl, ?_⟩
  cases x with
  | true => exact (if_pos rfl).mpr (h2 rfl _ k)
  | false => exact (if_neg Bool.false_ne_true).mpr (k H (Same.refl _))
/-- what is locked and let go stands as it stood -/
theorem unlock {H H' : Hp} {d : Addr} {od : Obj} {u : HO} (e : H d = some u) (s : Same (upd H d (.frz od u)) H') : Same H (upd H' d u) := fun b o h => by
  by_cases hb : b = d
  · subst hb
    rw [upd_same, ← e]
    exact h
  · rw [upd_ne hb]
    exact s b o (by rw [upd_ne hb]; exact h)
theorem take_filter {α : Type} {l : List α} {i : Nat} {x : α} (f : α → Bool) (h : l[i]? = some x) : (l.take (i + 1)).filter f = (l.take i).filter f ++ if f x then [x] else [] := by
  rw [take_more h, List.filter_append]
  cases e : f x <;> simp [e]
/-- [e for k in d if t] over the keys of a dict, t and e change nothing -/
theorem lc_keys {td te : TE} {tt : TT} {s : Nat} {σ : L2.St} {H : Hp} {Q : VK} (d : Addr) (kvs : List (Key × V)) (f : Key → Bool) (g : Key → V) (e : H d = some (.dK kvs)) (hlen : kvs.length ≤ 90000)
    (htd : ∀ od, EI td σ (upd H d (.frz od (.dK kvs))) (.ref d))
    (hw : ∀ x, wipe ((wipe σ [s]).set s (some x)) [s] = wipe σ [s])
    (ht : ∀ (od : Obj) (i : Nat) (k : Key) (v : V) (G : Hp) (Q' : Bool → Hp → Prop), kvs[i]? = some (k, v) → Same (upd H d (.frz od (.dK kvs))) G → Q' (f k) G → tt ((wipe σ [s]).set s (some (kV k))) G Q')
    (he : ∀ (od : Obj) (i : Nat) (k : Key) (v : V) (G : Hp) (Q' : VK), kvs[i]? = some (k, v) → Same (upd H d (.frz od (.dK kvs))) G → Q' (g k) G → te ((wipe σ [s]).set s (some (kV k))) G Q')
    (k : ∀ D H', H D = none → Same H H' → H' D = some (.lst ((kvs.filter fun kv => f kv.1).map fun kv => g kv.1)) → Q (.ref D) H') : tLockE (tLc (iKeys td) (gName s) tt te [s]) σ H Q := by
  refine ⟨d, _, e, trivial, fun od => htd od _ (Same.refl _) _ ⟨d, od, rfl, .inl ⟨kvs, upd_same, fun D hD => ?_⟩⟩⟩
  have nD : D ≠ d := fun z => by rw [z, upd_same] at hD; cases hD
  have hD0 : H D = none := by rw [upd_ne nD] at hD; exact hD
  refine lc_it walk_keys (fun i G => Same (upd H d (.frz od (.dK kvs))) G ∧ G D = some (.lst (((kvs.take i).filter fun kv => f kv.1).map fun kv => g kv.1)))
    ⟨same_upd hD, upd_same⟩ (fun i G _ h => h.1 _ _ upd_same) (fun i x G G' hi hG hy => ?_) (fun G hG => ?_)
  · obtain ⟨rfl, key, v, hkv, rfl⟩ := hy
    have hfl : ((kvs.take i).filter fun kv => f kv.1).length ≤ 90000 := Nat.le_trans (List.length_filter_le _ _) (by rw [List.length_take]; omega)
    refine ⟨hw _, ht od i key v _ _ hkv hG.1 ?_⟩
    have hts := take_filter (fun kv : Key × V => f kv.1) hkv
    cases hf : f key with
    | true =>
      refine (if_pos rfl).mpr (he od i key v _ _ hkv hG.1 ⟨_, hG.2, szl (by rw [List.length_map]; omega), same_put hG.1 hD, ?_⟩)
      rw [upd_same, hts, List.map_append]
      simp only [hf, if_true]
      rfl
    | false =>
      refine (if_neg Bool.false_ne_true).mpr ⟨hG.1, ?_⟩
      rw [hts]
      simp only [hf, Bool.false_eq_true, if_false, List.append_nil]
      exact hG.2
  · rw [List.take_length] at hG
    refine ⟨hG.1 _ _ upd_same, k D _ hD0 (unlock e hG.1) ?_⟩
    rw [upd_ne nD]
    exact hG.2
theorem put_fresh {kvs : List (Key × V)} {k : Key} {v : V} (h : ∀ kv ∈ kvs, kv.1 ≠ k) : putK kvs k v = kvs ++ [(k, v)] := by
  unfold putK
  rw [if_neg]
  intro z
  obtain ⟨kv, hm, hk⟩ := List.any_eq_true.mp z
  exact h kv hm (of_decide_eq_true hk)
theorem nd_ne {α β : Type} {l : List (α × β)} {i : Nat} {x : α × β} (nd : (l.map (·.1)).Nodup) (h : l[i]? = some x) : ∀ y ∈ l.take i, y.1 ≠ x.1 := fun y hy z => by
  obtain ⟨j, hj, rfl⟩ := List.getElem_of_mem hy
  rw [List.length_take] at hj
  rw [List.getElem_take] at z
  obtain ⟨hi, rfl⟩ := List.getElem?_eq_some_iff.mp h
  have e1 : (l.map (·.1))[j]? = some l[i].1 := by rw [List.getElem?_map, List.getElem?_eq_getElem (by omega), ← z]; rfl
  have e2 : (l.map (·.1))[i]? = some l[i].1 := by rw [List.getElem?_map, List.getElem?_eq_getElem hi]; rfl
  have := nd_ix nd e1 e2
  omega
/-- {k: e for k in d if t} over the keys of a dict -/
theorem dc_keys {td tv : TE} {tt : TT} {s : Nat} {σ : L2.St} {H : Hp} {Q : VK} (d : Addr) (kvs : List (Key × V)) (f : Key → Bool) (g : Key × V → V) (e : H d = some (.dK kvs)) (hlen : kvs.length ≤ 90000) (nd : (kvs.map (·.1)).Nodup)
    (htd : ∀ od, EI td σ (upd H d (.frz od (.dK kvs))) (.ref d))
    (hw : ∀ x, wipe ((wipe σ [s]).set s (some x)) [s] = wipe σ [s])
    (ht : ∀ (od : Obj) (i : Nat) (k : Key) (v : V) (G : Hp) (Q' : Bool → Hp → Prop), kvs[i]? = some (k, v) → Same (upd H d (.frz od (.dK kvs))) G → Q' (f k) G → tt ((wipe σ [s]).set s (some (kV k))) G Q')
    (he : ∀ (od : Obj) (i : Nat) (k : Key) (v : V) (G : Hp) (Q' : VK), kvs[i]? = some (k, v) → f k = true → Same (upd H d (.frz od (.dK kvs))) G → Q' (g (k, v)) G → tv ((wipe σ [s]).set s (some (kV k))) G Q')
    (hn : ∀ i, (wipe σ [s]).length = i → s < i)
    (k : ∀ D H', H D = none → Same H H' → H' D = some (.dK ((kvs.filter fun kv => f kv.1).map fun kv => (kv.1, g kv))) → Q (.ref D) H') : tLockE (tDc (iKeys td) (gName s) tt (tVar s) tv [s]) σ H Q := by
  have hs : s < (wipe σ [s]).length := hn _ rfl
  refine ⟨d, _, e, trivial, fun od => htd od _ (Same.refl _) _ ⟨d, od, rfl, .inl ⟨kvs, upd_same, fun D hD => ?_⟩⟩⟩
  have nD : D ≠ d := fun z => by rw [z, upd_same] at hD; cases hD
  have hD0 : H D = none := by rw [upd_ne nD] at hD; exact hD
  let Pv : Nat → Hp → Prop := fun i G => Same (upd H d (.frz od (.dK kvs))) G ∧ G D = some (.dK (((kvs.take i).filter fun kv => f kv.1).map fun kv => (kv.1, g kv)))
  have step : ∀ i x G G', i < kvs.length → Pv i G → (G' = G ∧ ∃ k v, kvs[i]? = some (k, v) ∧ x = kV k) → gName s x (wipe σ [s]) G' fun σ2 H2 => wipe σ2 [s] = wipe σ [s] ∧ tt σ2 H2 fun b H3 =>
      if b = true then tVar s σ2 H3 fun y H4 => tv σ2 H4 fun z H5 => ∃ kvs' k', y = kV k' ∧ H5 D = some (.dK kvs') ∧ kvs'.length < sizeLine ∧ Pv (i + 1) (upd H5 D (.dK (putK kvs' k' z))) else Pv (i + 1) H3 := fun i x G G' hi hG hy => by
    obtain ⟨rfl, key, v, hkv, rfl⟩ := hy
    have hfl : ((kvs.take i).filter fun kv => f kv.1).length ≤ 90000 := Nat.le_trans (List.length_filter_le _ _) (by rw [List.length_take]; omega)
    refine ⟨hw _, ht od i key v _ _ hkv hG.1 ?_⟩
    have hts := take_filter (fun kv : Key × V => f kv.1) hkv
    cases hf : f key with
    | true =>
      refine (if_pos rfl).mpr ⟨kV key, by rw [List.getElem?_set_self hs], he od i key v _ _ hkv hf hG.1 ⟨_, key, rfl, hG.2, szl (by rw [List.length_map]; omega), same_put hG.1 hD, ?_⟩⟩
      rw [upd_same, hts, List.map_append, put_fresh]
      · simp only [hf, if_true]
        rfl
      · intro kv hm
        obtain ⟨y, hy, rfl⟩ := List.mem_map.mp hm
        exact nd_ne nd hkv y (List.mem_filter.mp hy).1
    | false =>
      refine (if_neg Bool.false_ne_true).mpr ⟨hG.1, ?_⟩
      rw [hts]
      simp only [hf, Bool.false_eq_true, if_false, List.append_nil]
      exact hG.2
  refine ⟨fun i m G => m = kvs.length - i ∧ i ≤ kvs.length ∧ Pv i G, ⟨kvs.length, by simp, Nat.zero_le _, same_upd hD, upd_same⟩, ?_⟩
  rintro i m G ⟨rfl, hi, hP⟩
  by_cases hlt : i < kvs.length
  · exact .inr ⟨⟨hP.1 _ _ upd_same, hlt⟩, Pv (i + 1), fun G' p' => ⟨kvs.length - (i + 1), by omega, rfl, hlt, p'⟩, fun x G' y => step i x G G' hlt hP y⟩
  · have ei : i = kvs.length := by omega
    subst ei
    obtain ⟨h1, h2⟩ := hP
    rw [List.take_length] at h2
    refine .inl ⟨⟨h1 _ _ upd_same, Nat.le_refl _⟩, h1 _ _ upd_same, k D _ hD0 (unlock e h1) ?_⟩
    rw [upd_ne nD]
    exact h2
/-! the same within a comprehension -/
section
variable {K : PySem.W.Frag} {X : Cx} {pos : Pos}
theorem pgK_tup {es : List Expr} {k : Nat} {t : TGs} {n : Nat} (hK : X.K = K) (hc : X.calm = true) (h : PGs X es t)
    (hn : (assignEach es X.env).length = n := by rfl) (hst : (assignEach es X.env).findIdx? (·.1) = none := by rfl) : PG X (.Tuple es k pos) (gTup K n t) := by subst hK; exact pg_tup hc h hn hst
theorem opK_in (h : X.K = K) : OpR X (compareOp .In) (rIn K false) := by subst h; exact op_in_seq
theorem opK_notIn (h : X.K = K) : OpR X (compareOp .NotIn) (rIn K true) := by subst h; exact op_notIn_seq
theorem opK_eqD (h : X.K = K) (hu : X.A.units + 64 < cLine) : OpR X (compareOp .Eq) (rEqD K) := by subst h; exact op_eqD hu
theorem opK_neD (h : X.K = K) (hu : X.A.units + 64 < cLine) : OpR X (compareOp .NotEq) (rNeD K) := by subst h; exact op_neD hu
theorem callK_isi (h : X.K = K) : CallR X (.builtin "isinstance") (rIsi K) := by subst h; exact call_isi
theorem slK_tup (h : X.K = K) : SlR X (rSlT K) := by subst h; exact sl_tup
end
end My
namespace My
open PySem PySem.Spec PyProof.Rows L2
/-! # a calculus of data: what a text without objects does -/
theorem upd_eq {H : Hp} {a b : Addr} {o : HO} (h : b = a) : upd H a o b = some o := by rw [h]; exact upd_same
abbrev AP := Addr → Prop
/-! data whose lists are lists -/
mutual
inductive Dq (K : PySem.W.Frag) (H : Hp) : V → PyData → Prop
  | non : Dq K H .non .none
  | bl (b : Bool) : Dq K H (.bl b) (.bool b)
  | int (i : Int) : Dq K H (.int i) (.int i)
  | str (x : Str) : Dq K H (.str x) (.str x)
  | lst {a : Addr} {xs : List V} {ds : List PyData} : H a = some (.lst xs) → DqAll K H xs ds → Dq K H (.ref a) (.list ds)
  | tup {a : Addr} {xs : List V} {ds : List PyData} : H a = some (.tup xs) → DqAll K H xs ds → Dq K H (.ref a) (.tuple ds)
inductive DqAll (K : PySem.W.Frag) (H : Hp) : List V → List PyData → Prop
  | nil : DqAll K H [] []
  | cons {v : V} {vs : List V} {d : PyData} {ds : List PyData} : Dq K H v d → DqAll K H vs ds → DqAll K H (v :: vs) (d :: ds)
end
mutual
theorem Dq.dp {K : PySem.W.Frag} {H : Hp} : ∀ (d : PyData) {v : V}, Dq K H v d → Dp K H v d
  | _, _, .non => .non
  | _, _, .bl b => .bl b
  | _, _, .int i => .int i
  | _, _, .str x => .str x
  | .list ds, _, .lst h a => .lst (sql h) (DqAll.dp ds a)
  | .tuple ds, _, .tup h a => .tup (sqt h) (DqAll.dp ds a)
theorem DqAll.dp {K : PySem.W.Frag} {H : Hp} : ∀ (ds : List PyData) {vs : List V}, DqAll K H vs ds → DpAll K H vs ds
  | [], _, .nil => .nil
  | d :: ds, _, .cons h a => .cons (Dq.dp d h) (DqAll.dp ds a)
end
mutual
theorem dq_same {K : PySem.W.Frag} {H H' : Hp} (e : Same H H') : ∀ (d : PyData) {v : V}, Dq K H v d → Dq K H' v d
  | _, _, .non => .non
  | _, _, .bl b => .bl b
  | _, _, .int i => .int i
  | _, _, .str x => .str x
  | .list ds, _, .lst h a => .lst (e _ _ h) (dqa_same e ds a)
  | .tuple ds, _, .tup h a => .tup (e _ _ h) (dqa_same e ds a)
theorem dqa_same {K : PySem.W.Frag} {H H' : Hp} (e : Same H H') : ∀ (ds : List PyData) {vs : List V}, DqAll K H vs ds → DqAll K H' vs ds
  | [], _, .nil => .nil
  | d :: ds, _, .cons h a => .cons (dq_same e d h) (dqa_same e ds a)
end
theorem dqa_len {K : PySem.W.Frag} {H : Hp} : ∀ {vs : List V} {ds : List PyData}, DqAll K H vs ds → vs.length = ds.length
  | _, _, .nil => rfl
  | _, _, .cons _ a => by rw [List.length_cons, List.length_cons, dqa_len a]
theorem dqa_at {K : PySem.W.Frag} {H : Hp} : ∀ {vs : List V} {ds : List PyData} {i : Nat} {d : PyData}, DqAll K H vs ds → ds[i]? = some d → ∃ v, vs[i]? = some v ∧ Dq K H v d
  | _, _, _, _, .nil, h => by simp at h
  | _, _, 0, _, .cons h _, e => ⟨_, rfl, by have := Option.some.inj e; subst this; exact h⟩
  | _, _, i + 1, _, .cons _ a, e => dqa_at (i := i) a (by simpa using e)
theorem dqa_atV {K : PySem.W.Frag} {H : Hp} {vs : List V} {ds : List PyData} {i : Nat} {v : V} (h : DqAll K H vs ds) (e : vs[i]? = some v) : ∃ d, ds[i]? = some d ∧ Dq K H v d := by
  have hi := (List.getElem?_eq_some_iff.mp e).1
  have hd : ds[i]? = some (ds[i]'(by rw [← dqa_len h]; exact hi)) := List.getElem?_eq_getElem _
  obtain ⟨v', h1, h2⟩ := dqa_at h hd
  rw [e] at h1
  cases h1
  exact ⟨_, hd, h2⟩
theorem dqa_app {K : PySem.W.Frag} {H : Hp} : ∀ {vs ws : List V} {ds es : List PyData}, DqAll K H vs ds → DqAll K H ws es → DqAll K H (vs ++ ws) (ds ++ es)
  | _, _, _, _, .nil, b => b
  | _, _, _, _, .cons h a, b => .cons h (dqa_app a b)
theorem dqa_take {K : PySem.W.Frag} {H : Hp} : ∀ {vs : List V} {ds : List PyData} (n : Nat), DqAll K H vs ds → DqAll K H (vs.take n) (ds.take n)
  | _, _, 0, _ => by rw [List.take_zero, List.take_zero]; exact .nil
  | _, _, n + 1, .nil => by rw [List.take_nil, List.take_nil]; exact .nil
  | _, _, n + 1, .cons h a => by rw [List.take_succ_cons, List.take_succ_cons]; exact .cons h (dqa_take n a)
theorem dqa_drop {K : PySem.W.Frag} {H : Hp} : ∀ {vs : List V} {ds : List PyData} (n : Nat), DqAll K H vs ds → DqAll K H (vs.drop n) (ds.drop n)
  | _, _, 0, h => h
  | _, _, n + 1, .nil => by rw [List.drop_nil, List.drop_nil]; exact .nil
  | _, _, n + 1, .cons h a => by rw [List.drop_succ_cons, List.drop_succ_cons]; exact dqa_drop n a
/-! scalars -/
def sc : V → PyData
  | .non => .none
  | .bl b => .bool b
  | .int i => .int i
  | .str x => .str x
  | _ => .none
def isSc : V → Bool
  | .non => true
  | .bl _ => true
  | .int _ => true
  | .str _ => true
  | _ => false
theorem dq_sc {K : PySem.W.Frag} {H : Hp} {v : V} (h : isSc v = true) : Dq K H v (sc v) := by
  cases v <;> first | constructor | cases h
theorem dqa_sc {K : PySem.W.Frag} {H : Hp} : ∀ {vs : List V}, vs.all isSc = true → DqAll K H vs (vs.map sc)
  | [], _ => .nil
  | v :: vs, h => by
    rw [List.all_cons, Bool.and_eq_true] at h
    exact .cons (dq_sc h.1) (dqa_sc h.2)
/-- data is a scalar -/
def isScD : PyData → Bool
  | .none => true
  | .bool _ => true
  | .int _ => true
  | .str _ => true
  | _ => false
def scV : PyData → V
  | .none => .non
  | .bool b => .bl b
  | .int i => .int i
  | .str x => .str x
  | _ => .non
theorem dq_scV {K : PySem.W.Frag} {H : Hp} {v : V} {d : PyData} (h : Dq K H v d) (hs : isScD d = true) : v = scV d := by
  cases h <;> first | rfl | cases hs
theorem dq_int {K : PySem.W.Frag} {H : Hp} {v : V} {i : Int} (h : Dq K H v (.int i)) : v = .int i := by cases h; rfl
theorem dq_str {K : PySem.W.Frag} {H : Hp} {v : V} {i : Str} (h : Dq K H v (.str i)) : v = .str i := by cases h; rfl
theorem dq_bl {K : PySem.W.Frag} {H : Hp} {v : V} {i : Bool} (h : Dq K H v (.bool i)) : v = .bl i := by cases h; rfl
theorem dq_non {K : PySem.W.Frag} {H : Hp} {v : V} (h : Dq K H v .none) : v = .non := by cases h; rfl
theorem dq_tup {K : PySem.W.Frag} {H : Hp} {v : V} {ds : List PyData} (h : Dq K H v (.tuple ds)) : ∃ p vs, v = .ref p ∧ SqT K H p vs ∧ DqAll K H vs ds := by cases h with | tup h a => exact ⟨_, _, rfl, sqt h, a⟩
theorem dq_tupH {K : PySem.W.Frag} {H : Hp} {v : V} {ds : List PyData} (h : Dq K H v (.tuple ds)) : ∃ p vs, v = .ref p ∧ H p = some (.tup vs) ∧ DqAll K H vs ds := by cases h with | tup h a => exact ⟨_, _, rfl, h, a⟩
theorem dq_lst {K : PySem.W.Frag} {H : Hp} {v : V} {ds : List PyData} (h : Dq K H v (.list ds)) : ∃ p vs, v = .ref p ∧ H p = some (.lst vs) ∧ DqAll K H vs ds := by cases h with | lst h a => exact ⟨_, _, rfl, h, a⟩
/-! steps: F are the addresses of what may change, B is what never changes -/
structure Stq (F : AP) (H B : Hp) (F' : AP) (H' B' : Hp) : Prop where
  b : Same B B'
  s : Same B' H'
  f : ∀ x, H x ≠ none → B x = none → B' x = none
  k : ∀ x o, H x = some o → ¬ F x → H' x = some o
  n : ∀ x, H x ≠ none → ¬ F x → ¬ F' x
  e : ∀ x, H x ≠ none → H' x ≠ none
section
variable {F F' F1 F2 : AP} {H B H' B' H1 B1 H2 B2 : Hp}
theorem Stq.refl (s : Same B H) : Stq F H B F H B := ⟨Same.refl _, s, fun _ _ h => h, fun _ _ h _ => h, fun _ _ h => h, fun _ h => h⟩
theorem Stq.trans (a : Stq F H B F1 H1 B1) (c : Stq F1 H1 B1 F2 H2 B2) : Stq F H B F2 H2 B2 where
  b := a.b.trans c.b
  s := c.s
  f := fun x h1 h2 => c.f x (a.e x h1) (a.f x h1 h2)
  k := fun x o h n => c.k x o (a.k x o h n) (a.n x (by rw [h]; simp) n)
  n := fun x h n => c.n x (a.e x h) (a.n x h n)
  e := fun x h => c.e x (a.e x h)
theorem Stq.pure (s : Same H H') (b : Same B B') (t : Same B' H') (f : ∀ x, H x ≠ none → B x = none → B' x = none) : Stq F H B F H' B' :=
  ⟨b, t, f, fun x o h _ => s x o h, fun _ _ h => h, fun x h z => by
    cases e : H x with
    | none => exact h e
    | some o => rw [s x o e] at z; cases z⟩
theorem b_none (s : Same B H) {p : Addr} (h : H p = none) : B p = none := by
  cases e : B p with
  | none => rfl
  | some o => rw [s p o e] at h; cases h
theorem same_bothU {p : Addr} {o : HO} (s : Same B H) : Same (upd B p o) (upd H p o) := same_both s
/-- a new thing that stays as it is -/
theorem Stq.newD (s : Same B H) {p : Addr} {o : HO} (hp : H p = none) : Stq F H B F (upd H p o) (upd B p o) :=
  .pure (same_upd hp) (same_upd (b_none s hp)) (same_both s) fun x h1 h2 => by rw [upd_ne (fun z => h1 (by rw [z]; exact hp))]; exact h2
theorem Stq.newO (s : Same B H) {p : Addr} {o : HO} (hp : H p = none) : Stq F H B F (upd H p o) B :=
  .pure (same_upd hp) (Same.refl _) (s.trans (same_upd hp)) fun _ _ h => h
/-- what is new since H and no data changes -/
theorem Stq.put (a : Stq F H B F1 H1 B1) {p : Addr} {o : HO} (h0 : H p = none) (hb : B1 p = none) : Stq F H B F1 (upd H1 p o) B1 where
  b := a.b
  s := fun x u h => by rw [upd_ne (fun z => by rw [z, hb] at h; cases h)]; exact a.s x u h
  f := a.f
  k := fun x u h n => by rw [upd_ne (fun z => by rw [z, h0] at h; cases h)]; exact a.k x u h n
  n := a.n
  e := fun x h => by
    by_cases hx : x = p
    · rw [hx, upd_same]; simp
    · rw [upd_ne hx]; exact a.e x h
end
/-! what may change, by its footprint -/
structure MR (M : Type) where
  rel : M → AP → Hp → Hp → Prop
  frame : ∀ {m F H B H' B'}, rel m F H B → (∀ x, F x → H' x = H x) → Same B B' → rel m F H' B'
  dom : ∀ {m F H B x}, rel m F H B → F x → H x ≠ none ∧ B x = none
def noM : MR Unit where
  rel := fun _ F _ _ => ∀ x, ¬ F x
  frame := fun h _ _ => h
  dom := fun h hx => absurd hx (h _)
/-! what is known of a value -/
inductive Rk where
  | d (x : PyData)
  | o (xs : List PyData)
  | l (xs : List PyData)
  | v (x : V)
  | c (xs : List PyData)
def RelR (K : PySem.W.Frag) (H0 : Hp) (F : AP) (H B : Hp) (v : V) : Rk → Prop
  | .d x => Dq K B v x
  | .o xs => ∃ p vs, v = .ref p ∧ H p = some (.lst vs) ∧ B p = none ∧ ¬ F p ∧ H0 p = none ∧ DqAll K B vs xs
  | .l xs => ∃ p vs, v = .ref p ∧ H p = some (.lst vs) ∧ ¬ F p ∧ DqAll K B vs xs
  | .v x => v = x
  | .c xs => ∃ p vs, v = .ref p ∧ (∀ G, SqT K G p vs) ∧ vs.all isSc = true ∧ vs.map sc = xs
section
variable {K : PySem.W.Frag} {F F' : AP} {H0 Hs H B H' B' : Hp} {v : V} {r : Rk}
theorem RelR.step (h : RelR K H0 F H B v r) (s : Stq F H B F' H' B') : RelR K H0 F' H' B' v r := by
  cases r with
  | d x => exact dq_same s.b x h
  | o xs =>
    obtain ⟨p, vs, rfl, h1, h2, h3, h4, h5⟩ := h
    have hn : H p ≠ none := by rw [h1]; simp
    exact ⟨p, vs, rfl, s.k _ _ h1 h3, s.f _ hn h2, s.n _ hn h3, h4, dqa_same s.b _ h5⟩
  | l xs =>
    obtain ⟨p, vs, rfl, h1, h3, h5⟩ := h
    have hn : H p ≠ none := by rw [h1]; simp
    exact ⟨p, vs, rfl, s.k _ _ h1 h3, s.n _ hn h3, dqa_same s.b _ h5⟩
  | v x => exact h
  | c x => exact h
theorem RelR.base (h : RelR K H0 F H B v r) (e : ∀ x, Hs x ≠ none → H0 x ≠ none) : RelR K Hs F H B v r := by
  cases r with
  | o xs =>
    obtain ⟨p, vs, rfl, h1, h2, h3, h4, h5⟩ := h
    exact ⟨p, vs, rfl, h1, h2, h3, Classical.byContradiction fun z => e p z h4, h5⟩
  | d x => exact h
  | l xs => exact h
  | v x => exact h
  | c x => exact h
end
def RelA (K : PySem.W.Frag) (H0 : Hp) (F : AP) (H B : Hp) : List V → List Rk → Prop
  | [], [] => True
  | v :: vs, r :: rs => RelR K H0 F H B v r ∧ RelA K H0 F H B vs rs
  | _, _ => False
theorem RelA.step {K : PySem.W.Frag} {F F' : AP} {H0 H B H' B' : Hp} (s : Stq F H B F' H' B') : ∀ {vs : List V} {rs : List Rk}, RelA K H0 F H B vs rs → RelA K H0 F' H' B' vs rs
  | [], [], _ => True.intro
  | _ :: _, _ :: _, h => ⟨h.1.step s, h.2.step s⟩
  | [], _ :: _, h => h.elim
  | _ :: _, [], h => h.elim
/-! what is known of a slot -/
inductive Sl where
  | u
  | d (x : PyData)
  | o (xs : List PyData)
  | v (x : V)
def SlD (K : PySem.W.Frag) (H0 : Hp) (F : AP) (H B : Hp) (w : Option V) : Sl → Prop
  | .u => True
  | .d x => ∃ v, w = some v ∧ Dq K B v x
  | .o xs => ∃ p vs, w = some (.ref p) ∧ H p = some (.lst vs) ∧ B p = none ∧ ¬ F p ∧ H0 p = none ∧ DqAll K B vs xs
  | .v x => w = some x
theorem SlD.step {K : PySem.W.Frag} {F F' : AP} {H0 H B H' B' : Hp} {w : Option V} {s : Sl} (h : SlD K H0 F H B w s) (q : Stq F H B F' H' B') : SlD K H0 F' H' B' w s := by
  cases s with
  | u => exact True.intro
  | d x => obtain ⟨v, h1, h2⟩ := h; exact ⟨v, h1, dq_same q.b x h2⟩
  | o xs =>
    obtain ⟨p, vs, rfl, h1, h2, h3, h4, h5⟩ := h
    have hn : H p ≠ none := by rw [h1]; simp
    exact ⟨p, vs, rfl, q.k _ _ h1 h3, q.f _ hn h2, q.n _ hn h3, h4, dqa_same q.b _ h5⟩
  | v x => exact h
structure DS {M : Type} (R : MR M) (K : PySem.W.Frag) (E : XK) (XP : Addr → M → Prop) (F0 : AP) (H0 B0 : Hp) (F : AP) (H B : Hp) (σ : L2.St) (ρ : List Sl) (m : M) : Prop where
  l : σ.length = ρ.length
  st : Stq F0 H0 B0 F H B
  r : R.rel m F H B
  s : ∀ (i : Nat) (t : Sl), ρ[i]? = some t → ∃ w, σ[i]? = some w ∧ SlD K H0 F H B w t
  oo : ∀ (i j : Nat) (p : Addr) (xs ys : List PyData), ρ[i]? = some (.o xs) → ρ[j]? = some (.o ys) → σ[i]? = some (some (.ref p)) → σ[j]? = some (some (.ref p)) → i = j
  x : ∀ C m' F' H' B', XP C m' → Stq F0 H0 B0 F' H' B' → R.rel m' F' H' B' → E (.ref C) none H'
section
variable {M : Type} {R : MR M} {K : PySem.W.Frag} {E : XK} {XP : Addr → M → Prop} {F0 F F' : AP} {H0 B0 H B H' B' : Hp} {σ : L2.St} {ρ : List Sl} {m m' : M}
theorem DS.step (h : DS R K E XP F0 H0 B0 F H B σ ρ m) (q : Stq F H B F' H' B') (r : R.rel m' F' H' B') : DS R K E XP F0 H0 B0 F' H' B' σ ρ m' :=
  ⟨h.l, h.st.trans q, r, fun i t ht => by obtain ⟨w, h1, h2⟩ := h.s i t ht; exact ⟨w, h1, h2.step q⟩, h.oo, h.x⟩
theorem DS.pure (h : DS R K E XP F0 H0 B0 F H B σ ρ m) (s : Same H H') (b : Same B B') (t : Same B' H') (f : ∀ x, H x ≠ none → B x = none → B' x = none) : DS R K E XP F0 H0 B0 F H' B' σ ρ m :=
  h.step (.pure s b t f) (R.frame h.r (fun x hx => by
    obtain ⟨h1, _⟩ := R.dom h.r hx
    cases e : H x with
    | none => exact absurd e h1
    | some o => exact s x o e) b)
theorem DS.newD (h : DS R K E XP F0 H0 B0 F H B σ ρ m) {p : Addr} {o : HO} (hp : H p = none) : DS R K E XP F0 H0 B0 F (upd H p o) (upd B p o) σ ρ m :=
  h.pure (same_upd hp) (same_upd (b_none h.st.s hp)) (same_both h.st.s) fun x h1 h2 => by rw [upd_ne (fun z => h1 (by rw [z]; exact hp))]; exact h2
theorem DS.newO (h : DS R K E XP F0 H0 B0 F H B σ ρ m) {p : Addr} {o : HO} (hp : H p = none) : DS R K E XP F0 H0 B0 F (upd H p o) B σ ρ m :=
  h.pure (same_upd hp) (Same.refl _) (h.st.s.trans (same_upd hp)) fun _ _ z => z
theorem DS.nF (h : DS R K E XP F0 H0 B0 F H B σ ρ m) {p : Addr} (hp : H p = none) : ¬ F p := fun z => (R.dom h.r z).1 hp
theorem DS.nFB (h : DS R K E XP F0 H0 B0 F H B σ ρ m) {p : Addr} {o : HO} (hp : B p = some o) : ¬ F p := fun z => by have := (R.dom h.r z).2; rw [hp] at this; cases this
end
/-! ## expressions -/
section
variable {M : Type} (R : MR M) (K : PySem.W.Frag) (E : XK) (XP : Addr → M → Prop)
@[irreducible] def WE (ρ : List Sl) (m : M) (te : TE) (k : Rk → M → Prop) : Prop := ∀ {F0 H0 B0 F H B σ}, DS R K E XP F0 H0 B0 F H B σ ρ m → ∀ Q : VK, (∀ v r m' F' H' B', k r m' → DS R K E XP F0 H0 B0 F' H' B' σ ρ m' → Stq F H B F' H' B' → RelR K H F' H' B' v r → Q v H') → te σ H Q
@[irreducible] def WA (ρ : List Sl) (m : M) (ta : TA) (k : List Rk → M → Prop) : Prop := ∀ {F0 H0 B0 F H B σ}, DS R K E XP F0 H0 B0 F H B σ ρ m → ∀ Q : List V → Hp → Prop, (∀ vs rs m' F' H' B', k rs m' → DS R K E XP F0 H0 B0 F' H' B' σ ρ m' → Stq F H B F' H' B' → RelA K H F' H' B' vs rs → Q vs H') → ta σ H Q
@[irreducible] def WT (ρ : List Sl) (m : M) (tt : TT) (k : Bool → M → Prop) : Prop := ∀ {F0 H0 B0 F H B σ}, DS R K E XP F0 H0 B0 F H B σ ρ m → ∀ Q : Bool → Hp → Prop, (∀ b m' F' H' B', k b m' → DS R K E XP F0 H0 B0 F' H' B' σ ρ m' → Stq F H B F' H' B' → Q b H') → tt σ H Q
/-- an operator by what is known of its two sides -/
@[irreducible] def OpP (ρ : List Sl) (m : M) (r : R2) (a b : Rk) (k : Rk → M → Prop) : Prop := ∀ {F0 H0 B0 F H B σ Hs x y}, DS R K E XP F0 H0 B0 F H B σ ρ m → RelR K Hs F H B x a → RelR K Hs F H B y b → ∀ Q : VK, (∀ v c m' F' H' B', k c m' → DS R K E XP F0 H0 B0 F' H' B' σ ρ m' → Stq F H B F' H' B' → RelR K H F' H' B' v c → Q v H') → r x y H Q
@[irreducible] def CbP (ρ : List Sl) (m : M) (r : List V → Hp → VK → Prop) (rs : List Rk) (k : Rk → M → Prop) : Prop := ∀ {F0 H0 B0 F H B σ Hs vs}, DS R K E XP F0 H0 B0 F H B σ ρ m → RelA K Hs F H B vs rs → ∀ Q : VK, (∀ v c m' F' H' B', k c m' → DS R K E XP F0 H0 B0 F' H' B' σ ρ m' → Stq F H B F' H' B' → RelR K H F' H' B' v c → Q v H') → r vs H Q
end
section
variable {M : Type} {R : MR M} {K : PySem.W.Frag} {E : XK} {XP : Addr → M → Prop} {ρ : List Sl} {m : M} {k : Rk → M → Prop} {ta tb tc te : TE} {i : Nat}
theorem we_var {x : PyData} (h : ρ[i]? = some (.d x)) (hk : k (.d x) m) : WE R K E XP ρ m (tVar i) k := by with_unfolding_all exact (fun D Q q => by
  obtain ⟨w, h1, v, rfl, h2⟩ := D.s i _ h
  exact ⟨v, h1, q v _ m _ _ _ hk D (.refl D.st.s) h2⟩)
theorem we_varO {xs : List PyData} (h : ρ[i]? = some (.o xs)) (hk : k (.l xs) m) : WE R K E XP ρ m (tVar i) k := by with_unfolding_all exact (fun D Q q => by
  obtain ⟨w, h1, p, vs, rfl, h2, h3, h4, h5, h6⟩ := D.s i _ h
  exact ⟨_, h1, q _ (.l xs) m _ _ _ hk D (.refl D.st.s) ⟨p, vs, rfl, h2, h4, h6⟩⟩)
theorem we_varV {x : V} (h : ρ[i]? = some (.v x)) (hk : k (.v x) m) : WE R K E XP ρ m (tVar i) k := by with_unfolding_all exact (fun D Q q => by
  obtain ⟨w, h1, rfl⟩ := D.s i _ h
  exact ⟨x, h1, q x (.v x) m _ _ _ hk D (.refl D.st.s) rfl⟩)
theorem we_c {v : V} (hv : isSc v = true) (hk : k (.d (sc v)) m) : WE R K E XP ρ m (tC v) k := by with_unfolding_all exact (fun D Q q => q v _ m _ _ _ hk D (.refl D.st.s) (dq_sc hv))
theorem we_int {i : Int} (hk : k (.d (.int i)) m) : WE R K E XP ρ m (tC (.int i)) k := we_c rfl hk
theorem we_str {i : Str} (hk : k (.d (.str i)) m) : WE R K E XP ρ m (tC (.str i)) k := we_c rfl hk
theorem we_bl {i : Bool} (hk : k (.d (.bool i)) m) : WE R K E XP ρ m (tC (.bl i)) k := we_c rfl hk
theorem we_non (hk : k (.d .none) m) : WE R K E XP ρ m (tC .non) k := we_c rfl hk
theorem we_cV {v : V} (hk : k (.v v) m) : WE R K E XP ρ m (tC v) k := by with_unfolding_all exact (fun D Q q => q v _ m _ _ _ hk D (.refl D.st.s) rfl)
/-- a written tuple of scalars -/
theorem we_cT {p : Addr} {vs : List V} (hT : ∀ H, SqT K H p vs) (hv : vs.all isSc = true) (hk : k (.c (vs.map sc)) m) : WE R K E XP ρ m (tC (.ref p)) k := by with_unfolding_all exact (fun D Q q => q _ _ m _ _ _ hk D (.refl D.st.s) ⟨p, vs, rfl, hT, hv, rfl⟩)
theorem we_op {r : R2} (h : WE R K E XP ρ m ta fun a m1 => WE R K E XP ρ m1 tb fun b m2 => OpP R K E XP ρ m2 r a b k) : WE R K E XP ρ m (tOp r ta tb) k := by with_unfolding_all exact (fun D Q q =>
  h D _ fun v a m1 F1 H1 B1 k1 D1 q1 r1 => k1 D1 _ fun w b m2 F2 H2 B2 k2 D2 q2 r2 => k2 D2 (r1.step q2) (r2.base fun x hx => q1.e x hx) _ fun v c m' F' H' B' k3 D3 q3 r3 => q v c m' F' H' B' k3 D3 (q1.trans (q2.trans q3)) (r3.base fun x hx => q2.e x (q1.e x hx)))
theorem wa_nil {k : List Rk → M → Prop} (hk : k [] m) : WA R K E XP ρ m tNil k := by with_unfolding_all exact (fun D Q q => q [] [] m _ _ _ hk D (.refl D.st.s) True.intro)
theorem relA_base {H0 Hs : Hp} {F : AP} {H B : Hp} (e : ∀ x, Hs x ≠ none → H0 x ≠ none) : ∀ {vs : List V} {rs : List Rk}, RelA K H0 F H B vs rs → RelA K Hs F H B vs rs
  | [], [], _ => True.intro
  | _ :: _, _ :: _, h => ⟨h.1.base e, relA_base e h.2⟩
  | [], _ :: _, h => h.elim
  | _ :: _, [], h => h.elim
theorem wa_cons {k : List Rk → M → Prop} {tr : TA} (h : WE R K E XP ρ m ta fun a m1 => WA R K E XP ρ m1 tr fun rs m2 => k (a :: rs) m2) : WA R K E XP ρ m (tCons ta tr) k := by with_unfolding_all exact (fun D Q q =>
  h D _ fun v a m1 F1 H1 B1 k1 D1 q1 r1 => k1 D1 _ fun vs rs m2 F2 H2 B2 k2 D2 q2 r2 => q _ _ m2 F2 H2 B2 k2 D2 (q1.trans q2) ⟨r1.step q2, relA_base (fun x hx => q1.e x hx) r2⟩)
theorem we_cb {r : List V → Hp → VK → Prop} {tr : TA} (h : WA R K E XP ρ m tr fun rs m1 => CbP R K E XP ρ m1 r rs k) : WE R K E XP ρ m (tCB r tr) k := by with_unfolding_all exact (fun D Q q =>
  h D _ fun vs rs m1 F1 H1 B1 k1 D1 q1 r1 => k1 D1 r1 _ fun v c m' F' H' B' k3 D3 q3 r3 => q v c m' F' H' B' k3 D3 (q1.trans q3) (r3.base fun x hx => q1.e x hx))
/-! tests -/
theorem wt_test {k : Bool → M → Prop} (h : WE R K E XP ρ m te fun r m1 => ∃ b, r = .d (.bool b) ∧ k b m1) : WT R K E XP ρ m (tTest te) k := by with_unfolding_all exact (fun D Q q =>
  h D _ fun v r m1 F1 H1 B1 ⟨b, e, k1⟩ D1 q1 r1 => by
    subst e
    exact ⟨b, dq_bl r1, q b m1 _ _ _ k1 D1 q1⟩)
theorem wt_b {k : Bool → M → Prop} (h : WE R K E XP ρ m te fun r m1 => ∃ b, r = .d (.bool b) ∧ k b m1) : WT R K E XP ρ m (tB te) k := by with_unfolding_all exact (fun D Q q =>
  h D _ fun v r m1 F1 H1 B1 ⟨b, e, k1⟩ D1 q1 r1 => by
    subst e
    exact ⟨b, dq_bl r1, q b m1 _ _ _ k1 D1 q1⟩)
theorem wt_not {k : Bool → M → Prop} {t : TT} (h : WT R K E XP ρ m t fun b m1 => k (!b) m1) : WT R K E XP ρ m (tNot t) k := by with_unfolding_all exact (fun D Q q => h D _ fun b m1 F1 H1 B1 k1 D1 q1 => q _ m1 _ _ _ k1 D1 q1)
theorem wt_and {k : Bool → M → Prop} {t u : TT} (h : WT R K E XP ρ m t fun b m1 => (b = true → WT R K E XP ρ m1 u k) ∧ (b = false → k false m1)) : WT R K E XP ρ m (tAnd t u) k := by with_unfolding_all exact (fun D Q q => h D _ fun b m1 F1 H1 B1 k1 D1 q1 => by
  cases b with
  | true => exact (if_pos rfl).mpr (k1.1 rfl D1 _ fun c m2 F2 H2 B2 k2 D2 q2 => q c m2 _ _ _ k2 D2 (q1.trans q2))
  | false => exact (if_neg Bool.false_ne_true).mpr (q _ m1 _ _ _ (k1.2 rfl) D1 q1))
theorem wt_or {k : Bool → M → Prop} {t u : TT} (h : WT R K E XP ρ m t fun b m1 => (b = false → WT R K E XP ρ m1 u k) ∧ (b = true → k true m1)) : WT R K E XP ρ m (tOr t u) k := by with_unfolding_all exact (fun D Q q => h D _ fun b m1 F1 H1 B1 k1 D1 q1 => by
  cases b with
  | false => exact (if_neg Bool.false_ne_true).mpr (k1.1 rfl D1 _ fun c m2 F2 H2 B2 k2 D2 q2 => q c m2 _ _ _ k2 D2 (q1.trans q2))
  | true => exact (if_pos rfl).mpr (q _ m1 _ _ _ (k1.2 rfl) D1 q1))
theorem we_andV (h : WE R K E XP ρ m ta fun r m1 => ∃ b, r = .d (.bool b) ∧ (b = true → WE R K E XP ρ m1 tb k) ∧ (b = false → k (.d (.bool false)) m1)) : WE R K E XP ρ m (tAndV ta tb) k := by with_unfolding_all exact (fun D Q q =>
  h D _ fun v r m1 F1 H1 B1 ⟨b, e, k1, k2⟩ D1 q1 r1 => by
    subst e
    refine ⟨b, dq_bl r1, ?_⟩
    cases b with
    | true => exact (if_pos rfl).mpr (k1 rfl D1 _ fun v c m' F' H' B' k3 D3 q3 r3 => q v c m' F' H' B' k3 D3 (q1.trans q3) (r3.base fun x hx => q1.e x hx))
    | false => exact (if_neg Bool.false_ne_true).mpr (q _ _ m1 _ _ _ (k2 rfl) D1 q1 (.bl false)))
theorem we_orV (h : WE R K E XP ρ m ta fun r m1 => ∃ b, r = .d (.bool b) ∧ (b = false → WE R K E XP ρ m1 tb k) ∧ (b = true → k (.d (.bool true)) m1)) : WE R K E XP ρ m (tOrV ta tb) k := by with_unfolding_all exact (fun D Q q =>
  h D _ fun v r m1 F1 H1 B1 ⟨b, e, k1, k2⟩ D1 q1 r1 => by
    subst e
    refine ⟨b, dq_bl r1, ?_⟩
    cases b with
    | false => exact (if_neg Bool.false_ne_true).mpr (k1 rfl D1 _ fun v c m' F' H' B' k3 D3 q3 r3 => q v c m' F' H' B' k3 D3 (q1.trans q3) (r3.base fun x hx => q1.e x hx))
    | true => exact (if_pos rfl).mpr (q _ _ m1 _ _ _ (k2 rfl) D1 q1 (.bl true)))
theorem we_notV (h : WE R K E XP ρ m ta fun r m1 => ∃ b, r = .d (.bool b) ∧ k (.d (.bool (!b))) m1) : WE R K E XP ρ m (tNotV ta) k := by with_unfolding_all exact (fun D Q q =>
  h D _ fun v r m1 F1 H1 B1 ⟨b, e, k1⟩ D1 q1 r1 => by
    subst e
    exact ⟨b, dq_bl r1, q _ _ m1 _ _ _ k1 D1 q1 (.bl _)⟩)
theorem we_if {t : TT} (h : WT R K E XP ρ m t fun b m1 => (b = true → WE R K E XP ρ m1 ta k) ∧ (b = false → WE R K E XP ρ m1 tb k)) : WE R K E XP ρ m (tIf t ta tb) k := by with_unfolding_all exact (fun D Q q =>
  h D _ fun b m1 F1 H1 B1 k1 D1 q1 => by
    cases b with
    | true => exact (if_pos rfl).mpr (k1.1 rfl D1 _ fun v c m' F' H' B' k3 D3 q3 r3 => q v c m' F' H' B' k3 D3 (q1.trans q3) (r3.base fun x hx => q1.e x hx))
    | false => exact (if_neg Bool.false_ne_true).mpr (k1.2 rfl D1 _ fun v c m' F' H' B' k3 D3 q3 r3 => q v c m' F' H' B' k3 D3 (q1.trans q3) (r3.base fun x hx => q1.e x hx)))
end
/-! ## operators and calls of built-ins -/
/-- an item of a list of data -/
def LR : Rk → List PyData → Prop
  | .d (.list xs), ys => xs = ys
  | .o xs, ys => xs = ys
  | .l xs, ys => xs = ys
  | _, _ => False
def isNoneD : PyData → Bool
  | .none => true
  | _ => false
/-- kinds for isinstance -/
def kindD : PyData → String
  | .none => "NoneType"
  | .bool _ => "bool"
  | .int _ => "int"
  | .str _ => "str"
  | .list _ => "list"
  | .tuple _ => "tuple"
  | .dict _ => "dict"
def isKD (k t : String) : Bool := k == t || (k == "bool" && t == "int")
theorem dq_tyx {K : PySem.W.Frag} {H : Hp} {v : V} {d : PyData} (h : Dq K H v d) : TyX K H v (.type (kindD d)) := by
  cases h with
  | non => exact .base .non
  | bl b => exact .base (.bl b)
  | int i => exact .base (.int i)
  | str x => exact .base (.str x)
  | lst h _ => exact tyx_l (sql h)
  | tup h _ => exact tyx_t (sqt h)
theorem dp_tyxD {K : PySem.W.Frag} {H : Hp} {v : V} {d : PyData} (h : Dp K H v d) : TyX K H v (.type (kindD d)) := by
  cases h with
  | non => exact .base .non
  | bl b => exact .base (.bl b)
  | int i => exact .base (.int i)
  | str x => exact .base (.str x)
  | lst h _ => exact tyx_l h
  | tup h _ => exact tyx_t h
theorem kindD_dp {K : PySem.W.Frag} {H : Hp} {v : V} {d : PyData} (h : Dp K H v d) : kindD d ∈ (["NoneType", "bool", "int", "str", "list", "tuple"] : List String) := by cases h <;> simp [kindD]
theorem kitKD : ∀ k ∈ (["NoneType", "bool", "int", "str", "list", "tuple"] : List String), ∀ t ∈ (["bool", "int", "str", "tuple", "list"] : List String), kitB k t = some (isKD k t) := by decide +kernel
theorem kindD_in {K : PySem.W.Frag} {H : Hp} {v : V} {d : PyData} (h : Dq K H v d) : kindD d ∈ (["NoneType", "bool", "int", "str", "list", "tuple"] : List String) := by
  cases h <;> simp [kindD]
/-! readings by name -/
def rAddS : R2 := fun x y H Q => ∃ i j, x = .str i ∧ y = .str j ∧ i.length + j.length ≤ sizeLine ∧ Q (.str (i ++ j)) H
theorem op_addS {X : Cx} : OpR X (binaryOp .Add) rAddS := op_add_str
def rLtS : R2 := fun x y H Q => ∃ i j, x = .str i ∧ y = .str j ∧ Q (.bl (decide (i.cps.toList < j.cps.toList))) H
theorem op_ltS {X : Cx} : OpR X (compareOp .Lt) rLtS := op_lt_str
def rLenS : List V → Hp → VK → Prop := fun xs H Q => ∃ z, xs = [.str z] ∧ z.length ≤ sizeLine ∧ Q (.int z.length) H
theorem call_lenS {X : Cx} : CallR X (.builtin "len") rLenS := call_len_str
def rInt1 : List V → Hp → VK → Prop := fun xs H Q => (∃ i, xs = [.int i] ∧ Q (.int i) H) ∨ ∃ k, xs = [.bl k] ∧ Q (.int (if k then 1 else 0)) H
theorem call_intN {X : Cx} : CallR X (.type "int") rInt1 := call_int1
def rStrI : List V → Hp → VK → Prop := fun xs H Q => ∃ i, xs = [.int i] ∧ i.natAbs.log2 < 1920 ∧ Q (.str (toString i)) H
theorem call_strN {X : Cx} : CallR X (.type "str") rStrI := call_str_int
theorem opK_inD {K : PySem.W.Frag} {X : Cx} (h : X.K = K) (hu : X.A.units + 65 < cLine) : OpR X (compareOp .In) (rInD K) := by subst h; exact op_inD hu
theorem opK_notInD {K : PySem.W.Frag} {X : Cx} (h : X.K = K) (hu : X.A.units + 65 < cLine) : OpR X (compareOp .NotIn) (rNotInD K) := by subst h; exact op_notInD hu
theorem slK_tupA {K : PySem.W.Frag} {X : Cx} (h : X.K = K) : SlR X (rSlA K) := by subst h; exact sl_tupA
theorem slKx_list {K : PySem.W.Frag} {X : Cx} (h : X.K = K) : SlR X (rSlL K) := by subst h; exact sl_list
theorem piK_list {K : PySem.W.Frag} {X : Cx} {tg l : Expr} {tl : TE} (h : X.K = K) (hl : PE X l tl) : PI X tg l (iList K tl) := by subst h; exact pi_list hl
theorem piK_tup {K : PySem.W.Frag} {X : Cx} {tg l : Expr} {tl : TE} (h : X.K = K) (hl : PE X l tl) : PI X tg l (iTup K tl) := by subst h; exact pi_tup hl
theorem ptK_truth {K : PySem.W.Frag} {X : Cx} {a : Expr} {ta : TE} (h : X.K = K) (ha : PE X a ta) (he : ∀ whole, isTrue a X.env whole = (do let v ← whole; standAt a.pos; holding [v] (truthy v))) : PT X a (tTru K ta) := by subst h; exact pt_truth ha he
section
variable {M : Type} {R : MR M} {K : PySem.W.Frag} {E : XK} {XP : Addr → M → Prop} {ρ : List Sl} {m : M} {k : Rk → M → Prop} {ta tb tc te : TE}
/-- an operator that gives a scalar and changes nothing -/
theorem opP_sc {r : R2} {a b : Rk} {v : V} (hv : isSc v = true) (h : ∀ {Hs F H B x y}, Same B H → RelR K Hs F H B x a → RelR K Hs F H B y b → ∀ Q : VK, Q v H → r x y H Q) (hk : k (.d (sc v)) m) : OpP R K E XP ρ m r a b k := by with_unfolding_all exact (fun D ra rb Q q =>
  h D.st.s ra rb Q (q _ _ m _ _ _ hk D (.refl D.st.s) (dq_sc hv)))
theorem opP_i0 {g : Int → Int → V} {i j : Int} (hk : k (.d (sc (g i j))) m) (hv : isSc (g i j) = true := by rfl) : OpP R K E XP ρ m (rI0 g) (.d (.int i)) (.d (.int j)) k :=
  opP_sc hv (fun _ ra rb Q q => ⟨i, j, dq_int ra, dq_int rb, q⟩) hk
theorem opP_ic {C : Int → Int → Prop} {g : Int → Int → V} {i j : Int} (hc : C i j) (hk : k (.d (sc (g i j))) m) (hv : isSc (g i j) = true := by rfl) : OpP R K E XP ρ m (rI C g) (.d (.int i)) (.d (.int j)) k :=
  opP_sc hv (fun _ ra rb Q q => ⟨i, j, dq_int ra, dq_int rb, hc, q⟩) hk
theorem opP_eqI {i j : Int} (hk : k (.d (.bool (decide (i = j)))) m) : OpP R K E XP ρ m rEq (.d (.int i)) (.d (.int j)) k :=
  opP_sc (v := .bl (decide (i = j))) rfl (fun _ ra rb Q q => by
    rw [dq_int ra, dq_int rb]
    refine ⟨rfl, ?_⟩
    have : decide (V.int i = V.int j) = decide (i = j) := by rw [Bool.eq_iff_iff]; simp
    rw [this]; exact q) hk
theorem opP_neI {i j : Int} (hk : k (.d (.bool (!decide (i = j)))) m) : OpP R K E XP ρ m rNe (.d (.int i)) (.d (.int j)) k :=
  opP_sc (v := .bl (!decide (i = j))) rfl (fun _ ra rb Q q => by
    rw [dq_int ra, dq_int rb]
    refine ⟨rfl, ?_⟩
    have : decide (V.int i = V.int j) = decide (i = j) := by rw [Bool.eq_iff_iff]; simp
    rw [this]; exact q) hk
theorem opP_eqS {i j : Str} (hk : k (.d (.bool (decide (i = j)))) m) : OpP R K E XP ρ m rEq (.d (.str i)) (.d (.str j)) k :=
  opP_sc (v := .bl (decide (i = j))) rfl (fun _ ra rb Q q => by
    rw [dq_str ra, dq_str rb]
    refine ⟨rfl, ?_⟩
    have : decide (V.str i = V.str j) = decide (i = j) := by rw [Bool.eq_iff_iff]; simp
    rw [this]; exact q) hk
theorem opP_neS {i j : Str} (hk : k (.d (.bool (!decide (i = j)))) m) : OpP R K E XP ρ m rNe (.d (.str i)) (.d (.str j)) k :=
  opP_sc (v := .bl (!decide (i = j))) rfl (fun _ ra rb Q q => by
    rw [dq_str ra, dq_str rb]
    refine ⟨rfl, ?_⟩
    have : decide (V.str i = V.str j) = decide (i = j) := by rw [Bool.eq_iff_iff]; simp
    rw [this]; exact q) hk
theorem opP_eqB {i j : Bool} (hk : k (.d (.bool (decide (i = j)))) m) : OpP R K E XP ρ m rEq (.d (.bool i)) (.d (.bool j)) k :=
  opP_sc (v := .bl (decide (i = j))) rfl (fun _ ra rb Q q => by
    rw [dq_bl ra, dq_bl rb]
    refine ⟨rfl, ?_⟩
    have : decide (V.bl i = V.bl j) = decide (i = j) := by rw [Bool.eq_iff_iff]; simp
    rw [this]; exact q) hk
theorem opP_neB {i j : Bool} (hk : k (.d (.bool (!decide (i = j)))) m) : OpP R K E XP ρ m rNe (.d (.bool i)) (.d (.bool j)) k :=
  opP_sc (v := .bl (!decide (i = j))) rfl (fun _ ra rb Q q => by
    rw [dq_bl ra, dq_bl rb]
    refine ⟨rfl, ?_⟩
    have : decide (V.bl i = V.bl j) = decide (i = j) := by rw [Bool.eq_iff_iff]; simp
    rw [this]; exact q) hk
/-- a result as data for deep comparison -/
theorem rel_dp {Hs : Hp} {F : AP} {H B : Hp} {v : V} {r : Rk} {d : PyData} (s : Same B H) (h : RelR K Hs F H B v r) (hr : r = .d d ∨ ∃ xs, d = .list xs ∧ LR r xs) : Dp K H v d := by
  rcases hr with rfl | ⟨xs, rfl, hl⟩
  · exact dp_same s _ (Dq.dp _ h)
  · cases r with
    | d x =>
      cases x with
      | list ys => obtain rfl : ys = xs := hl; exact dp_same s _ (Dq.dp _ h)
      | _ => exact hl.elim
    | o ys => obtain rfl : ys = xs := hl; obtain ⟨p, vs, rfl, h1, _, _, _, h5⟩ := h; exact .lst (sql h1) (dpa_same s _ (DqAll.dp _ h5))
    | l ys => obtain rfl : ys = xs := hl; obtain ⟨p, vs, rfl, h1, _, h5⟩ := h; exact .lst (sql h1) (dpa_same s _ (DqAll.dp _ h5))
    | v x => exact hl.elim
    | c x => exact hl.elim
def asD : Rk → Option PyData
  | .d x => some x
  | .o xs => some (.list xs)
  | .l xs => some (.list xs)
  | .v _ => none
  | .c xs => some (.tuple xs)
theorem rel_asD {Hs : Hp} {F : AP} {H B : Hp} {v : V} {r : Rk} {d : PyData} (s : Same B H) (h : RelR K Hs F H B v r) (hr : asD r = some d) : Dp K H v d := by
  cases r with
  | d x => cases hr; exact dp_same s _ (Dq.dp _ h)
  | o ys => cases hr; exact rel_dp s h (.inr ⟨ys, rfl, rfl⟩)
  | l ys => cases hr; exact rel_dp s h (.inr ⟨ys, rfl, rfl⟩)
  | v x => cases hr
  | c ys => cases hr; obtain ⟨p, vs, rfl, h1, h2, rfl⟩ := h; exact .tup (h1 H) (DqAll.dp _ (dqa_sc h2))
theorem opP_eqD {a b : Rk} {d e : PyData} (ha : asD a = some d) (hb : asD b = some e) (h1 : SeqAt.shaped d = true) (h2 : SeqAt.shaped e = true) (hk : k (.d (.bool (PyData.eqv d e))) m) : OpP R K E XP ρ m (rEqD K) a b k :=
  opP_sc (v := .bl (PyData.eqv d e)) rfl (fun s ra rb Q q => ⟨d, e, rel_asD s ra ha, rel_asD s rb hb, h1, h2, q⟩) hk
theorem opP_neD {a b : Rk} {d e : PyData} (ha : asD a = some d) (hb : asD b = some e) (h1 : SeqAt.shaped d = true) (h2 : SeqAt.shaped e = true) (hk : k (.d (.bool (!PyData.eqv d e))) m) : OpP R K E XP ρ m (rNeD K) a b k :=
  opP_sc (v := .bl (!PyData.eqv d e)) rfl (fun s ra rb Q q => ⟨d, e, rel_asD s ra ha, rel_asD s rb hb, h1, h2, q⟩) hk
theorem opP_inD {a b : Rk} {d : PyData} {ds : List PyData} (ha : asD a = some d) (hb : asD b = some (.list ds)) (h1 : SeqAt.shaped d = true) (h2 : SeqAt.shaped (.list ds) = true) (hk : k (.d (.bool (ds.any fun z => PyData.eqv z d))) m) : OpP R K E XP ρ m (rInD K) a b k :=
  opP_sc (v := .bl _) rfl (fun s ra rb Q q => ⟨d, ds, rel_asD s ra ha, rel_asD s rb hb, h1, h2, q⟩) hk
theorem opP_notInD {a b : Rk} {d : PyData} {ds : List PyData} (ha : asD a = some d) (hb : asD b = some (.list ds)) (h1 : SeqAt.shaped d = true) (h2 : SeqAt.shaped (.list ds) = true) (hk : k (.d (.bool (!ds.any fun z => PyData.eqv z d))) m) : OpP R K E XP ρ m (rNotInD K) a b k :=
  opP_sc (v := .bl _) rfl (fun s ra rb Q q => ⟨d, ds, rel_asD s ra ha, rel_asD s rb hb, h1, h2, q⟩) hk
theorem opP_isN {a : Rk} {d : PyData} (ha : asD a = some d) (hk : k (.d (.bool (isNoneD d))) m) : OpP R K E XP ρ m rIsN a (.d .none) k :=
  opP_sc (v := .bl (isNoneD d)) rfl (fun s ra rb Q q => by
    refine ⟨dq_non rb, ?_⟩
    rename_i Hs F H B x y
    have : decide (x = .non) = isNoneD d := by
      have h := rel_asD s ra ha
      cases h <;> rfl
    rw [this]; exact q) hk
theorem opP_notN {a : Rk} {d : PyData} (ha : asD a = some d) (hk : k (.d (.bool (!isNoneD d))) m) : OpP R K E XP ρ m rNotN a (.d .none) k :=
  opP_sc (v := .bl (!isNoneD d)) rfl (fun s ra rb Q q => by
    refine ⟨dq_non rb, ?_⟩
    rename_i Hs F H B x y
    have : decide (x = .non) = isNoneD d := by
      have h := rel_asD s ra ha
      cases h <;> rfl
    rw [this]; exact q) hk
theorem opP_addS {i j : Str} (hl : i.length + j.length ≤ sizeLine) (hk : k (.d (.str (i ++ j))) m) : OpP R K E XP ρ m rAddS (.d (.str i)) (.d (.str j)) k :=
  opP_sc (v := .str (i ++ j)) rfl (fun _ ra rb Q q => ⟨i, j, dq_str ra, dq_str rb, hl, q⟩) hk
theorem opP_ltS {i j : Str} (hk : k (.d (.bool (decide (i.cps.toList < j.cps.toList)))) m) : OpP R K E XP ρ m rLtS (.d (.str i)) (.d (.str j)) k :=
  opP_sc (v := .bl _) rfl (fun _ ra rb Q q => ⟨i, j, dq_str ra, dq_str rb, q⟩) hk
theorem opP_inSign {c : Nat} {z : Str} (hk : k (.d (.bool (decide (c ∈ z.cps.toList)))) m) : OpP R K E XP ρ m rInS (.d (.str ⟨#[c]⟩)) (.d (.str z)) k :=
  opP_sc (v := .bl _) rfl (fun _ ra rb Q q => ⟨c, z, dq_str ra, dq_str rb, q⟩) hk
theorem dqa_atI {K : PySem.W.Frag} {H : Hp} {vs : List V} {ds : List PyData} {i : Int} {d : PyData} (h : DqAll K H vs ds) (e : atI ds i = some d) : ∃ v, atI vs i = some v ∧ Dq K H v d := by
  unfold atI at e ⊢
  rw [dqa_len h]
  cases hi : ixN ds.length i with
  | none => rw [hi] at e; cases e
  | some j => rw [hi] at e; exact dqa_at h e
theorem opP_ixT {ds : List PyData} {i : Int} {d : PyData} (h : atI ds i = some d) (hk : k (.d d) m) : OpP R K E XP ρ m (rIxT K) (.d (.tuple ds)) (.d (.int i)) k := by with_unfolding_all exact (fun D ra rb Q q => by
  obtain ⟨p, vs, rfl, h1, h2⟩ := dq_tup ra
  cases dq_int rb
  obtain ⟨v, hv, hd⟩ := dqa_atI h2 h
  exact ⟨p, vs, i, v, rfl, rfl, sqt_same D.st.s h1, hv, q v _ m _ _ _ hk D (.refl D.st.s) hd⟩)
theorem rel_lst {Hs : Hp} {F : AP} {H B : Hp} {v : V} {r : Rk} {xs : List PyData} (s : Same B H) (h : RelR K Hs F H B v r) (hr : LR r xs) : ∃ p vs, v = .ref p ∧ H p = some (.lst vs) ∧ DqAll K B vs xs := by
  cases r with
  | d x =>
    cases x with
    | list ys => obtain rfl : ys = xs := hr; obtain ⟨p, vs, rfl, h1, h2⟩ := dq_lst h; exact ⟨p, vs, rfl, s _ _ h1, h2⟩
    | _ => exact hr.elim
  | o ys => obtain rfl : ys = xs := hr; obtain ⟨p, vs, rfl, h1, _, _, _, h5⟩ := h; exact ⟨p, vs, rfl, h1, h5⟩
  | l ys => obtain rfl : ys = xs := hr; obtain ⟨p, vs, rfl, h1, _, h5⟩ := h; exact ⟨p, vs, rfl, h1, h5⟩
  | v x => exact hr.elim
  | c x => exact hr.elim
theorem opP_ixL {a : Rk} {ds : List PyData} {i : Int} {d : PyData} (ha : LR a ds) (h : atI ds i = some d) (hk : k (.d d) m) : OpP R K E XP ρ m (rIxL K) a (.d (.int i)) k := by with_unfolding_all exact (fun D ra rb Q q => by
  obtain ⟨p, vs, rfl, h1, h2⟩ := rel_lst D.st.s ra ha
  cases dq_int rb
  obtain ⟨v, hv, hd⟩ := dqa_atI h2 h
  exact ⟨p, vs, i, v, rfl, rfl, sql h1, hv, q v _ m _ _ _ hk D (.refl D.st.s) hd⟩)
theorem opP_ixS {z : Str} {i : Int} {c : Nat} (hl : z.length ≤ sizeLine) (h : atI z.cps.toList i = some c) (hk : k (.d (.str ⟨#[c]⟩)) m) : OpP R K E XP ρ m rIxS (.d (.str z)) (.d (.int i)) k :=
  opP_sc (v := .str ⟨#[c]⟩) rfl (fun _ ra rb Q q => ⟨z, i, c, dq_str ra, dq_int rb, hl, h, q⟩) hk
/-- a new thing of data -/
theorem newD {F0 F : AP} {H0 B0 H B : Hp} {σ : L2.St} (D : DS R K E XP F0 H0 B0 F H B σ ρ m) {p : Addr} {vs : List V} {ds : List PyData} (hp : H p = none) (hd : DqAll K B vs ds) {Q : VK} (hk : k (.d (.tuple ds)) m)
    (q : ∀ v c m' F' H' B', k c m' → DS R K E XP F0 H0 B0 F' H' B' σ ρ m' → Stq F H B F' H' B' → RelR K H F' H' B' v c → Q v H') : Q (.ref p) (upd H p (.tup vs)) :=
  q _ _ m _ _ _ hk (D.newD hp) (.newD D.st.s hp) (.tup upd_same (dqa_same (same_upd (b_none D.st.s hp)) _ hd))
theorem newL {F0 F : AP} {H0 B0 H B : Hp} {σ : L2.St} (D : DS R K E XP F0 H0 B0 F H B σ ρ m) {p : Addr} {vs : List V} {ds : List PyData} (hp : H p = none) (hd : DqAll K B vs ds) {Q : VK} (hk : k (.o ds) m)
    (q : ∀ v c m' F' H' B', k c m' → DS R K E XP F0 H0 B0 F' H' B' σ ρ m' → Stq F H B F' H' B' → RelR K H F' H' B' v c → Q v H') : Q (.ref p) (upd H p (.lst vs)) :=
  q _ _ m _ _ _ hk (D.newO hp) (.newO D.st.s hp) ⟨p, vs, rfl, upd_same, b_none D.st.s hp, D.nF hp, hp, hd⟩
theorem opP_catT {xs ys : List PyData} (hl : xs.length + ys.length ≤ 90000) (hk : k (.d (.tuple (xs ++ ys))) m) : OpP R K E XP ρ m (rCatA K) (.d (.tuple xs)) (.d (.tuple ys)) k := by with_unfolding_all exact (fun D ra rb Q q => by
  obtain ⟨p, vs, rfl, h1, h2⟩ := dq_tup ra
  obtain ⟨p', ws, rfl, h3, h4⟩ := dq_tup rb
  have l1 := dqa_len h2
  have l2 := dqa_len h4
  refine ⟨p, p', vs, ws, rfl, rfl, sqt_same D.st.s h1, sqt_same D.st.s h3, sz (by omega), fun e => ?_, fun _ e => ?_, fun _ _ p hp => newD D hp (dqa_app h2 h4) hk q⟩
  · have : xs = [] := by rw [e] at l1; exact List.length_eq_zero_iff.mp l1.symm
    rw [this] at hk
    exact q _ _ m _ _ _ hk D (.refl D.st.s) rb
  · have : ys = [] := by rw [e] at l2; exact List.length_eq_zero_iff.mp l2.symm
    rw [this, List.append_nil] at hk
    exact q _ _ m _ _ _ hk D (.refl D.st.s) ra)
theorem opP_cat {a b : Rk} {xs ys : List PyData} (ha : LR a xs) (hb : LR b ys) (hl : xs.length + ys.length ≤ 90000) (hk : k (.o (xs ++ ys)) m) : OpP R K E XP ρ m rCat a b k := by with_unfolding_all exact (fun D ra rb Q q => by
  obtain ⟨p, vs, rfl, h1, h2⟩ := rel_lst D.st.s ra ha
  obtain ⟨p', ws, rfl, h3, h4⟩ := rel_lst D.st.s rb hb
  have l1 := dqa_len h2
  have l2 := dqa_len h4
  exact ⟨p, p', vs, ws, rfl, rfl, h1, h3, sz (by omega), fun p hp => newL D hp (dqa_app h2 h4) hk q⟩)
/-! displays -/
def DL : List Rk → Option (List PyData)
  | [] => some []
  | .d x :: rs => (DL rs).map (x :: ·)
  | _ :: _ => none
theorem rel_all {Hs : Hp} {F : AP} {H B : Hp} : ∀ {vs : List V} {rs : List Rk} {ds : List PyData}, RelA K Hs F H B vs rs → DL rs = some ds → DqAll K B vs ds
  | [], [], _, _, e => by cases e; exact .nil
  | v :: vs, r :: rs, ds, h, e => by
    cases r with
    | d x =>
      unfold DL at e
      cases hr : DL rs with
      | none => rw [hr] at e; cases e
      | some es => rw [hr] at e; cases e; exact .cons h.1 (rel_all h.2 hr)
    | o _ => cases e
    | l _ => cases e
    | v _ => cases e
    | c _ => cases e
  | [], _ :: _, _, h, _ => h.elim
  | _ :: _, [], _, h, _ => h.elim
theorem we_tup {tr : TA} (h : WA R K E XP ρ m tr fun rs m1 => ∃ ds, DL rs = some ds ∧ ds.length ≤ 90000 ∧ k (.d (.tuple ds)) m1) : WE R K E XP ρ m (tTup tr) k := by with_unfolding_all exact (fun D Q q =>
  h D _ fun vs rs m1 F1 H1 B1 ⟨ds, e, hl, k1⟩ D1 q1 r1 => by
    have hd := rel_all r1 e
    exact ⟨sz (by rw [dqa_len hd]; omega), fun p hp => newD D1 hp hd k1 fun v c m' F' H' B' k3 D3 q3 r3 => q v c m' F' H' B' k3 D3 (q1.trans q3) (r3.base fun x hx => q1.e x hx)⟩)
theorem we_lst {tr : TA} (h : WA R K E XP ρ m tr fun rs m1 => ∃ ds, DL rs = some ds ∧ ds.length ≤ 90000 ∧ k (.o ds) m1) : WE R K E XP ρ m (tLst tr) k := by with_unfolding_all exact (fun D Q q =>
  h D _ fun vs rs m1 F1 H1 B1 ⟨ds, e, hl, k1⟩ D1 q1 r1 => by
    have hd := rel_all r1 e
    exact ⟨sz (by rw [dqa_len hd]; omega), fun p hp => newL D1 hp hd k1 fun v c m' F' H' B' k3 D3 q3 r3 => q v c m' F' H' B' k3 D3 (q1.trans q3) (r3.base fun x hx => q1.e x hx)⟩)
/-! calls of built-ins -/
theorem cbP_sc {r : List V → Hp → VK → Prop} {rs : List Rk} {v : V} (hv : isSc v = true) (h : ∀ {Hs F H B vs}, Same B H → RelA K Hs F H B vs rs → ∀ Q : VK, Q v H → r vs H Q) (hk : k (.d (sc v)) m) : CbP R K E XP ρ m r rs k := by with_unfolding_all exact (fun D ra Q q =>
  h D.st.s ra Q (q _ _ m _ _ _ hk D (.refl D.st.s) (dq_sc hv)))
theorem relA1 {Hs : Hp} {F : AP} {H B : Hp} {vs : List V} {r : Rk} (h : RelA K Hs F H B vs [r]) : ∃ v, vs = [v] ∧ RelR K Hs F H B v r := by
  match vs, h with
  | [v], h => exact ⟨v, rfl, h.1⟩
theorem relA2 {Hs : Hp} {F : AP} {H B : Hp} {vs : List V} {r s : Rk} (h : RelA K Hs F H B vs [r, s]) : ∃ v w, vs = [v, w] ∧ RelR K Hs F H B v r ∧ RelR K Hs F H B w s := by
  match vs, h with
  | [v, w], h => exact ⟨v, w, rfl, h.1, h.2.1⟩
theorem cbP_lenL {a : Rk} {ds : List PyData} (ha : LR a ds) (hk : k (.d (.int (ds.length : Int))) m) : CbP R K E XP ρ m (rLen K) [a] k :=
  cbP_sc (v := .int (ds.length : Int)) rfl (fun s ra Q q => by
    obtain ⟨v, rfl, r1⟩ := relA1 ra
    obtain ⟨p, vs, rfl, h1, h2⟩ := rel_lst s r1 ha
    exact ⟨p, vs, rfl, .inl (sql h1), by rw [dqa_len h2]; exact q⟩) hk
theorem cbP_lenT {ds : List PyData} (hk : k (.d (.int (ds.length : Int))) m) : CbP R K E XP ρ m (rLen K) [.d (.tuple ds)] k :=
  cbP_sc (v := .int (ds.length : Int)) rfl (fun s ra Q q => by
    obtain ⟨v, rfl, r1⟩ := relA1 ra
    obtain ⟨p, vs, rfl, h1, h2⟩ := dq_tup r1
    exact ⟨p, vs, rfl, .inr (sqt_same s h1), by rw [dqa_len h2]; exact q⟩) hk
theorem cbP_lenS {z : Str} (hl : z.length ≤ sizeLine) (hk : k (.d (.int (z.length : Int))) m) : CbP R K E XP ρ m rLenS [.d (.str z)] k :=
  cbP_sc (v := .int (z.length : Int)) rfl (fun s ra Q q => by
    obtain ⟨v, rfl, r1⟩ := relA1 ra
    cases dq_str r1
    exact ⟨z, rfl, hl, q⟩) hk
theorem cbP_isi {a : Rk} {d : PyData} {t : String} (ha : asD a = some d) (ht : t ∈ (["bool", "int", "str", "tuple", "list"] : List String)) (hk : k (.d (.bool (isKD (kindD d) t))) m) : CbP R K E XP ρ m (rIsi K) [a, .v (.ty t)] k :=
  cbP_sc (v := .bl (isKD (kindD d) t)) rfl (fun s ra Q q => by
    obtain ⟨v, w, rfl, r1, r2⟩ := relA2 ra
    cases (show w = .ty t from r2)
    have h := rel_asD s r1 ha
    have hk' := kindD_dp h
    have ht' := dp_tyxD h
    exact ⟨v, .ty t, .type (kindD d), .type t, _, rfl, .ty _, ht', kit_ty (kitKD _ hk' _ ht), q⟩) hk
theorem cbP_int {i : Int} (hk : k (.d (.int i)) m) : CbP R K E XP ρ m rInt1 [.d (.int i)] k :=
  cbP_sc (v := .int i) rfl (fun s ra Q q => by
    obtain ⟨v, rfl, r1⟩ := relA1 ra
    exact .inl ⟨i, by rw [dq_int r1], q⟩) hk
theorem cbP_intB {b : Bool} (hk : k (.d (.int (if b then 1 else 0))) m) : CbP R K E XP ρ m rInt1 [.d (.bool b)] k :=
  cbP_sc (v := .int (if b then 1 else 0)) rfl (fun s ra Q q => by
    obtain ⟨v, rfl, r1⟩ := relA1 ra
    exact .inr ⟨b, by rw [dq_bl r1], q⟩) hk
theorem cbP_strI {i : Int} (hl : i.natAbs.log2 < 1920) (hk : k (.d (.str (toString i))) m) : CbP R K E XP ρ m rStrI [.d (.int i)] k :=
  cbP_sc (v := .str (toString i)) rfl (fun s ra Q q => by
    obtain ⟨v, rfl, r1⟩ := relA1 ra
    exact ⟨i, by rw [dq_int r1], hl, q⟩) hk
theorem cbP_listL {a : Rk} {ds : List PyData} (ha : LR a ds) (hk : k (.o ds) m) : CbP R K E XP ρ m (rLst K) [a] k := by with_unfolding_all exact (fun D ra Q q => by
  obtain ⟨v, rfl, r1⟩ := relA1 ra
  obtain ⟨p, vs, rfl, h1, h2⟩ := rel_lst D.st.s r1 ha
  exact ⟨p, vs, rfl, .inl (sql h1), fun l hl => newL D hl h2 hk q⟩)
theorem cbP_listT {ds : List PyData} (hk : k (.o ds) m) : CbP R K E XP ρ m (rLst K) [.d (.tuple ds)] k := by with_unfolding_all exact (fun D ra Q q => by
  obtain ⟨v, rfl, r1⟩ := relA1 ra
  obtain ⟨p, vs, rfl, h1, h2⟩ := dq_tup r1
  exact ⟨p, vs, rfl, .inr (sqt_same D.st.s h1), fun l hl => newL D hl h2 hk q⟩)
theorem cbP_tupL {a : Rk} {ds : List PyData} (ha : LR a ds) (hk : k (.d (.tuple ds)) m) : CbP R K E XP ρ m (rTup K) [a] k := by with_unfolding_all exact (fun D ra Q q => by
  obtain ⟨v, rfl, r1⟩ := relA1 ra
  obtain ⟨p, vs, rfl, h1, h2⟩ := rel_lst D.st.s r1 ha
  exact ⟨p, vs, rfl, .inl ⟨sql h1, fun l hl => newD D hl h2 hk q⟩⟩)
theorem cbP_tupT {ds : List PyData} (hk : k (.d (.tuple ds)) m) : CbP R K E XP ρ m (rTup K) [.d (.tuple ds)] k := by with_unfolding_all exact (fun D ra Q q => by
  obtain ⟨v, rfl, r1⟩ := relA1 ra
  have r1' := r1
  obtain ⟨p, vs, rfl, h1, h2⟩ := dq_tup r1
  exact ⟨p, vs, rfl, .inr ⟨sqt_same D.st.s h1, q _ _ m _ _ _ hk D (.refl D.st.s) r1'⟩⟩)
/-! slices -/
@[irreducible] def WO (R : MR M) (K : PySem.W.Frag) (E : XK) (XP : Addr → M → Prop) (ρ : List Sl) (m : M) (to : TO) (k : Option Int → M → Prop) : Prop := ∀ {F0 H0 B0 F H B σ}, DS R K E XP F0 H0 B0 F H B σ ρ m → ∀ Q : Option Int → Hp → Prop, (∀ b m' F' H' B', k b m' → DS R K E XP F0 H0 B0 F' H' B' σ ρ m' → Stq F H B F' H' B' → Q b H') → to σ H Q
theorem wo_none {k : Option Int → M → Prop} (hk : k none m) : WO R K E XP ρ m tNoPart k := by with_unfolding_all exact (fun D Q q => q none m _ _ _ hk D (.refl D.st.s))
theorem wo_part {k : Option Int → M → Prop} (h : WE R K E XP ρ m te fun r m1 => ∃ i, r = .d (.int i) ∧ k (some i) m1) : WO R K E XP ρ m (tPart te) k := by with_unfolding_all exact (fun D Q q =>
  h D _ fun v r m1 F1 H1 B1 ⟨i, e, k1⟩ D1 q1 r1 => by subst e; exact ⟨i, dq_int r1, q _ m1 _ _ _ k1 D1 q1⟩)
@[irreducible] def SlP (R : MR M) (K : PySem.W.Frag) (E : XK) (XP : Addr → M → Prop) (ρ : List Sl) (m : M) (r : V → Option Int → Option Int → Hp → VK → Prop) (a : Rk) (lo hi : Option Int) (k : Rk → M → Prop) : Prop := ∀ {F0 H0 B0 F H B σ Hs x}, DS R K E XP F0 H0 B0 F H B σ ρ m → RelR K Hs F H B x a → ∀ Q : VK, (∀ v c m' F' H' B', k c m' → DS R K E XP F0 H0 B0 F' H' B' σ ρ m' → Stq F H B F' H' B' → RelR K H F' H' B' v c → Q v H') → r x lo hi H Q
theorem we_sl {r : V → Option Int → Option Int → Hp → VK → Prop} {tl th : TO} (h : WE R K E XP ρ m te fun a m1 => WO R K E XP ρ m1 tl fun lo m2 => WO R K E XP ρ m2 th fun hi m3 => SlP R K E XP ρ m3 r a lo hi k) : WE R K E XP ρ m (tSl r te tl th) k := by with_unfolding_all exact (fun D Q q =>
  h D _ fun v a m1 F1 H1 B1 k1 D1 q1 r1 => k1 D1 _ fun lo m2 F2 H2 B2 k2 D2 q2 => k2 D2 _ fun hi m3 F3 H3 B3 k3 D3 q3 => k3 D3 ((r1.step q2).step q3) _ fun v c m' F' H' B' k4 D4 q4 r4 => q v c m' F' H' B' k4 D4 (((q1.trans q2).trans q3).trans q4) (r4.base fun x hx => q3.e x (q2.e x (q1.e x hx))))
/-- a cut of data -/
def cutD (xs : List PyData) (lo hi : Option Int) : List PyData := (xs.drop (HT.sIx xs.length 0 lo)).take (HT.sIx xs.length xs.length hi - HT.sIx xs.length 0 lo)
theorem cutD_all {B : Hp} {vs : List V} {xs : List PyData} (h : DqAll K B vs xs) (lo hi : Option Int) : DqAll K B (cutV vs lo hi) (cutD xs lo hi) := by
  unfold cutV cutD
  rw [dqa_len h]
  exact dqa_take _ (dqa_drop _ h)
theorem slP_L {a : Rk} {xs : List PyData} {lo hi : Option Int} (ha : LR a xs) (hk : k (.o (cutD xs lo hi)) m) : SlP R K E XP ρ m (rSlL K) a lo hi k := by with_unfolding_all exact (fun D ra Q q => by
  obtain ⟨p, vs, rfl, h1, h2⟩ := rel_lst D.st.s ra ha
  exact ⟨p, vs, rfl, sql h1, fun p hp => newL D hp (cutD_all h2 lo hi) hk q⟩)
theorem slP_S {z : Str} {lo hi : Option Int} (hl : z.length ≤ sizeLine) (hk : k (.d (.str (cutS z lo hi))) m) : SlP R K E XP ρ m rSlS (.d (.str z)) lo hi k := by with_unfolding_all exact (fun D ra Q q => by
  cases dq_str ra
  exact ⟨z, rfl, hl, q _ _ m _ _ _ hk D (.refl D.st.s) (.str _)⟩)
theorem slP_T {xs : List PyData} {lo hi : Option Int} (hk : k (.d (.tuple (cutD xs lo hi))) m) : SlP R K E XP ρ m (rSlA K) (.d (.tuple xs)) lo hi k := by with_unfolding_all exact (fun D ra Q q => by
  have ra' := ra
  obtain ⟨p, vs, rfl, h1, h2⟩ := dq_tup ra
  have hl := dqa_len h2
  refine ⟨p, vs, rfl, sqt_same D.st.s h1, fun e => ?_, fun _ p hp => newD D hp (cutD_all h2 lo hi) hk q⟩
  rw [hl] at e
  have : cutD xs lo hi = xs := by
    unfold cutD
    rw [e.1, e.2, List.drop_zero, Nat.sub_zero, List.take_length]
  rw [this] at hk
  exact q _ _ m _ _ _ hk D (.refl D.st.s) ra')
end
/-! ## what is new becomes data -/
def DLo : List Rk → Option (List PyData)
  | [] => some []
  | .d x :: rs => (DLo rs).map (x :: ·)
  | .o xs :: rs => (DLo rs).map (.list xs :: ·)
  | _ :: _ => none
section
variable {M : Type} {R : MR M} {K : PySem.W.Frag} {E : XK} {XP : Addr → M → Prop} {ρ : List Sl} {m : M} {F0 F : AP} {H0 B0 H B Hs : Hp} {σ : L2.St}
/-- no slot's own list is new since Hs -/
def OwnB (ρ : List Sl) (σ : L2.St) (Hs : Hp) : Prop := ∀ (i : Nat) (xs : List PyData) (p : Addr), ρ[i]? = some (.o xs) → σ[i]? = some (some (.ref p)) → Hs p ≠ none
theorem DS.own (D : DS R K E XP F0 H0 B0 F H B σ ρ m) : OwnB ρ σ H := fun i xs p h1 h2 => by
  obtain ⟨w, h3, q, vs, rfl, h4, _⟩ := D.s i _ h1
  rw [h2] at h3
  cases h3
  rw [h4]; simp
theorem OwnB.mono {Hs' : Hp} (h : OwnB ρ σ Hs) (e : ∀ x, Hs x ≠ none → Hs' x ≠ none) : OwnB ρ σ Hs' := fun i xs p h1 h2 => e p (h i xs p h1 h2)
/-- a list that is no slot's becomes data -/
theorem DS.freeze (D : DS R K E XP F0 H0 B0 F H B σ ρ m) {p : Addr} {vs : List V} (e : H p = some (.lst vs)) (hb : B p = none) (hF : ¬ F p) (h0 : H0 p = none) (hn : ∀ (i : Nat) (xs : List PyData), ρ[i]? = some (.o xs) → σ[i]? ≠ some (some (.ref p))) :
    DS R K E XP F0 H0 B0 F H (upd B p (.lst vs)) σ ρ m where
  l := D.l
  st := { b := D.st.b.trans (same_upd hb)
          s := fun x o h => by
            by_cases hx : x = p
            · subst hx; rw [upd_same] at h; rw [← h]; exact e
            · rw [upd_ne hx] at h; exact D.st.s x o h
          f := fun x h1 h2 => by rw [upd_ne (fun z => h1 (by rw [z]; exact h0))]; exact D.st.f x h1 h2
          k := D.st.k
          n := D.st.n
          e := D.st.e }
  r := R.frame D.r (fun _ _ => rfl) (same_upd hb)
  s := fun i t ht => by
    obtain ⟨w, h1, h2⟩ := D.s i t ht
    refine ⟨w, h1, ?_⟩
    cases t with
    | u => exact True.intro
    | d x => obtain ⟨v, h3, h4⟩ := h2; exact ⟨v, h3, dq_same (same_upd hb) x h4⟩
    | o xs =>
      obtain ⟨q, us, rfl, h3, h4, h5, h6, h7⟩ := h2
      refine ⟨q, us, rfl, h3, ?_, h5, h6, dqa_same (same_upd hb) _ h7⟩
      rw [upd_ne (fun z => hn i xs ht (by rw [h1, z]))]
      exact h4
    | v x => exact h2
  oo := D.oo
  x := D.x
theorem toD (D : DS R K E XP F0 H0 B0 F H B σ ρ m) (ho : OwnB ρ σ Hs) (hs : ∀ x, H0 x ≠ none → Hs x ≠ none) : ∀ {vs : List V} {rs : List Rk} {ds : List PyData}, RelA K Hs F H B vs rs → DLo rs = some ds →
    ∃ B', Same B B' ∧ DS R K E XP F0 H0 B0 F H B' σ ρ m ∧ (∀ x, Hs x ≠ none → B x = none → B' x = none) ∧ DqAll K B' vs ds
  | [], [], _, _, e => by cases e; exact ⟨B, Same.refl _, D, fun _ _ h => h, .nil⟩
  | v :: vs, r :: rs, ds, h, e => by
    obtain ⟨h1, h2⟩ := h
    cases r with
    | d x =>
      unfold DLo at e
      cases hr : DLo rs with
      | none => rw [hr] at e; cases e
      | some es =>
        rw [hr] at e; cases e
        obtain ⟨B', b1, D', f1, a1⟩ := toD D ho hs h2 hr
        exact ⟨B', b1, D', f1, .cons (dq_same b1 _ h1) a1⟩
    | o xs =>
      unfold DLo at e
      cases hr : DLo rs with
      | none => rw [hr] at e; cases e
      | some es =>
        rw [hr] at e; cases e
        obtain ⟨B', b1, D', f1, a1⟩ := toD D ho hs h2 hr
        obtain ⟨p, us, rfl, g1, g2, g3, g4, g5⟩ := h1
        cases hb : B' p with
        | some o =>
          have : o = .lst us := by have := D'.st.s _ _ hb; rw [g1] at this; exact (Option.some.inj this).symm
          subst this
          exact ⟨B', b1, D', f1, .cons (.lst hb (dqa_same b1 _ g5)) a1⟩
        | none =>
          have h0 : H0 p = none := Classical.byContradiction fun z => hs p z g4
          refine ⟨upd B' p (.lst us), b1.trans (same_upd hb), D'.freeze g1 hb g3 h0 (fun i ys z w => ho i ys p z w g4), fun x hx hx2 => ?_, .cons (.lst upd_same (dqa_same (b1.trans (same_upd hb)) _ g5)) (dqa_same (same_upd hb) _ a1)⟩
          rw [upd_ne (fun z => hx (by rw [z]; exact g4))]
          exact f1 x hx hx2
    | l _ => cases e
    | v _ => cases e
    | c _ => cases e
  | [], _ :: _, _, h, _ => h.elim
  | _ :: _, [], _, h, _ => h.elim
end
section
variable {M : Type} {R : MR M} {K : PySem.W.Frag} {E : XK} {XP : Addr → M → Prop} {ρ : List Sl} {m : M} {k : Rk → M → Prop} {ta tb tc te : TE} {tr : TA}
/-- data from what was worked out -/
theorem wa_data {k' : List PyData → M → Prop} (h : WA R K E XP ρ m tr fun rs m1 => ∃ ds, DLo rs = some ds ∧ k' ds m1) {F0 H0 B0 F H B σ} (D : DS R K E XP F0 H0 B0 F H B σ ρ m) (Q : List V → Hp → Prop)
    (q : ∀ vs ds m' F' H' B', k' ds m' → DS R K E XP F0 H0 B0 F' H' B' σ ρ m' → Stq F H B F' H' B' → DqAll K B' vs ds → Q vs H') : tr σ H Q :=
  by with_unfolding_all exact (h D _ fun vs rs m1 F1 H1 B1 ⟨ds, e, k1⟩ D1 q1 r1 => by
    obtain ⟨B', b1, D', f1, a1⟩ := toD D1 D.own (fun x hx => D.st.e x hx) r1 e
    refine q vs ds m1 F1 H1 B' k1 D' ⟨q1.b.trans b1, D'.st.s, fun x h1 h2 => f1 x h1 (q1.f x h1 h2), q1.k, q1.n, q1.e⟩ a1)
theorem we_tupo (h : WA R K E XP ρ m tr fun rs m1 => ∃ ds, DLo rs = some ds ∧ ds.length ≤ 90000 ∧ k (.d (.tuple ds)) m1) : WE R K E XP ρ m (tTup tr) k := by with_unfolding_all exact (fun D Q q =>
  wa_data h D _ fun vs ds m1 F1 H1 B1 ⟨hl, k1⟩ D1 q1 hd =>
    ⟨sz (by rw [dqa_len hd]; omega), fun p hp => newD D1 hp hd k1 fun v c m' F' H' B' k3 D3 q3 r3 => q v c m' F' H' B' k3 D3 (q1.trans q3) (r3.base fun x hx => q1.e x hx)⟩)
theorem we_lsto (h : WA R K E XP ρ m tr fun rs m1 => ∃ ds, DLo rs = some ds ∧ ds.length ≤ 90000 ∧ k (.o ds) m1) : WE R K E XP ρ m (tLst tr) k := by with_unfolding_all exact (fun D Q q =>
  wa_data h D _ fun vs ds m1 F1 H1 B1 ⟨hl, k1⟩ D1 q1 hd =>
    ⟨sz (by rw [dqa_len hd]; omega), fun p hp => newL D1 hp hd k1 fun v c m' F' H' B' k3 D3 q3 r3 => q v c m' F' H' B' k3 D3 (q1.trans q3) (r3.base fun x hx => q1.e x hx)⟩)
end
/-! ## defs of data -/
def RelP (K : PySem.W.Frag) (H0 H B : Hp) (v : V) : Rk → Prop
  | .d x => Dq K B v x
  | .o xs => ∃ p vs, v = .ref p ∧ H p = some (.lst vs) ∧ B p = none ∧ H0 p = none ∧ DqAll K B vs xs
  | _ => False
/-- a def that gets data and gives data, or a new list of data -/
def spP (K : PySem.W.Frag) (pre : List PyData → Prop) (post : List PyData → Rk → Prop) : Sp := fun vs H Q _ => ∃ ds B, DqAll K B vs ds ∧ Same B H ∧ pre ds ∧
  ∀ v r H' B', post ds r → Same H H' → Same B B' → Same B' H' → (∀ x, H x ≠ none → B x = none → B' x = none) → RelP K H H' B' v r → Q v H'
section
variable {M : Type} {R : MR M} {K : PySem.W.Frag} {E : XK} {XP : Addr → M → Prop} {ρ : List Sl} {m : M} {k : Rk → M → Prop} {ta tb tc te : TE} {tr : TA}
theorem we_callP {pre : List PyData → Prop} {post : List PyData → Rk → Prop} {dvs : List V} {E' : XK} (h : WA R K E XP ρ m tr fun rs m1 => ∃ ds, DLo rs = some ds ∧ pre (ds ++ dvs.map sc) ∧ ∀ r, post (ds ++ dvs.map sc) r → k r m1) (hdv : dvs.all isSc = true := by rfl) : WE R K E XP ρ m (tCall (spP K pre post) dvs E' tr) k := by with_unfolding_all exact (fun D Q q =>
  wa_data h D _ fun vs ds m1 F1 H1 B1 ⟨hp, hk⟩ D1 q1 hd => by
    refine ⟨ds ++ dvs.map sc, B1, dqa_app hd (dqa_sc hdv), D1.st.s, hp, fun v r H' B' hr s1 b1 t1 f1 rel => ?_⟩
    have D2 := D1.pure s1 b1 t1 f1
    have q2 := q1.trans (Stq.pure (F := F1) s1 b1 t1 f1)
    refine q v r m1 F1 H' B' (hk r hr) D2 q2 ?_
    cases r with
    | d x => exact rel
    | o xs =>
      obtain ⟨p, us, rfl, g1, g2, g3, g4⟩ := rel
      exact ⟨p, us, rfl, g1, g2, D1.nF g3, Classical.byContradiction fun z => q1.e p z g3, g4⟩
    | l _ => exact rel.elim
    | v _ => exact rel.elim
    | c _ => exact rel.elim)
end
/-! ## statements -/
def slOf : Rk → Sl
  | .d x => .d x
  | .o xs => .o xs
  | .l _ => .u
  | .c _ => .u
  | .v x => .v x
/-- the same slots, some forgotten -/
def Wk : List Sl → List Sl → Prop
  | [], [] => True
  | a :: as, b :: bs => (a = b ∨ b = .u) ∧ Wk as bs
  | _, _ => False
theorem Wk.refl : ∀ ρ : List Sl, Wk ρ ρ
  | [] => True.intro
  | _ :: ρ => ⟨.inl rfl, Wk.refl ρ⟩
theorem Wk.len : ∀ {ρ ρ' : List Sl}, Wk ρ ρ' → ρ'.length = ρ.length
  | [], [], _ => rfl
  | _ :: _, _ :: _, h => by rw [List.length_cons, List.length_cons, Wk.len h.2]
  | [], _ :: _, h => h.elim
  | _ :: _, [], h => h.elim
theorem Wk.at : ∀ {ρ ρ' : List Sl} {i : Nat} {t : Sl}, Wk ρ ρ' → ρ'[i]? = some t → t = .u ∨ ρ[i]? = some t
  | [], [], i, t, _, h => by simp at h
  | a :: as, b :: bs, 0, t, w, h => by
    have e : b = t := by simpa using h
    subst e
    rcases w.1 with z | z
    · exact .inr (by rw [z]; rfl)
    · exact .inl z
  | a :: as, b :: bs, i + 1, t, w, h => by
    have h' : bs[i]? = some t := by simpa using h
    rcases Wk.at w.2 h' with z | z
    · exact .inl z
    · exact .inr (by simpa using z)
  | [], _ :: _, _, _, h, _ => h.elim
  | _ :: _, [], _, _, h, _ => h.elim
section
variable {M : Type} (R : MR M) (K : PySem.W.Frag) (E : XK) (XP : Addr → M → Prop)
@[irreducible] def WS (ρ : List Sl) (m : M) (ts : TS) (nx : List Sl → M → Prop) (rt : Rk → M → Prop) (bk ct : List Sl → M → Prop) : Prop := ∀ {F0 H0 B0 F H B σ} (D : Ends), DS R K E XP F0 H0 B0 F H B σ ρ m →
  (∀ {σ' ρ' m' F' H' B'}, nx ρ' m' → DS R K E XP F0 H0 B0 F' H' B' σ' ρ' m' → Same B B' → D.nx σ' H') →
  (∀ {v r m' F' H' B'}, rt r m' → Stq F0 H0 B0 F' H' B' → R.rel m' F' H' B' → RelR K H0 F' H' B' v r → D.rt v H') →
  (∀ {σ' ρ' m' F' H' B'}, bk ρ' m' → DS R K E XP F0 H0 B0 F' H' B' σ' ρ' m' → Same B B' → D.bk σ' H') →
  (∀ {σ' ρ' m' F' H' B'}, ct ρ' m' → DS R K E XP F0 H0 B0 F' H' B' σ' ρ' m' → Same B B' → D.ct σ' H') → ts D σ H
/-- a target that gets data -/
@[irreducible] def WG (ρ : List Sl) (m : M) (g : TG) (d : PyData) (k : List Sl → Prop) : Prop := ∀ {F0 H0 B0 F H B σ v}, DS R K E XP F0 H0 B0 F H B σ ρ m → Dq K B v d → ∀ Q : L2.St → Hp → Prop,
  (∀ σ' ρ', k ρ' → DS R K E XP F0 H0 B0 F H B σ' ρ' m → Q σ' H) → g v σ H Q
@[irreducible] def WGs (ρ : List Sl) (m : M) (g : TGs) (ds : List PyData) (k : List Sl → Prop) : Prop := ∀ {F0 H0 B0 F H B σ vs}, DS R K E XP F0 H0 B0 F H B σ ρ m → DqAll K B vs ds → ∀ Q : L2.St → Hp → Prop,
  (∀ σ' ρ', k ρ' → DS R K E XP F0 H0 B0 F H B σ' ρ' m → Q σ' H) → g vs σ H Q
end
theorem wipe_in {j : Nat} {τ : L2.St} : ∀ {vs : List Nat}, j ∈ vs → (wipe τ vs)[j]? = if j < τ.length then some none else none
  | [], h => by cases h
  | a :: vs, h => by
    show ((wipe τ vs).set a none)[j]? = _
    by_cases ha : j = a
    · subst ha
      by_cases hl : j < τ.length
      · rw [List.getElem?_set_self (by rw [wipe_length]; exact hl), if_pos hl]
      · rw [if_neg hl, List.getElem?_eq_none (by rw [List.length_set, wipe_length]; omega)]
    · rw [List.getElem?_set_ne (fun z => ha z.symm)]
      exact wipe_in ((List.mem_cons.mp h).resolve_left ha)
theorem wipe_set {i : Nat} {w : Option V} {σ : L2.St} {vs : List Nat} (h : i ∈ vs) : wipe (σ.set i w) vs = wipe σ vs := by
  refine List.ext_getElem? fun j => ?_
  by_cases hj : j ∈ vs
  · rw [wipe_in hj, wipe_in hj, List.length_set]
  · rw [wipe_out hj, wipe_out hj, List.getElem?_set_ne (fun z => hj (by rw [← z]; exact h))]
section
variable {M : Type} {R : MR M} {K : PySem.W.Frag} {E : XK} {XP : Addr → M → Prop} {ρ : List Sl} {m : M} {F0 F : AP} {H0 B0 H B Hs : Hp} {σ : L2.St}
theorem DS.wk (D : DS R K E XP F0 H0 B0 F H B σ ρ m) {ρ' : List Sl} (w : Wk ρ ρ') : DS R K E XP F0 H0 B0 F H B σ ρ' m where
  l := by rw [w.len]; exact D.l
  st := D.st
  r := D.r
  s := fun i t ht => by
    rcases w.at ht with rfl | h
    · have hi : i < σ.length := by rw [D.l, ← w.len]; exact (List.getElem?_eq_some_iff.mp ht).1
      exact ⟨_, List.getElem?_eq_getElem hi, True.intro⟩
    · exact D.s i t h
  oo := fun i j p xs ys h1 h2 => D.oo i j p xs ys ((w.at h1).resolve_left (by intro z; cases z)) ((w.at h2).resolve_left (by intro z; cases z))
  x := D.x
/-- a slot gets data or what is known of it -/
theorem DS.setW (D : DS R K E XP F0 H0 B0 F H B σ ρ m) (i : Nat) {w : Option V} {t : Sl} (hw : SlD K H0 F H B w t) (ht : ∀ xs p, t = .o xs → w = some (.ref p) → ∀ (j : Nat) (ys : List PyData), ρ[j]? = some (.o ys) → j ≠ i → σ[j]? ≠ some (some (.ref p))) :
    DS R K E XP F0 H0 B0 F H B (σ.set i w) (ρ.set i t) m where
  l := by rw [List.length_set, List.length_set]; exact D.l
  st := D.st
  r := D.r
  s := fun j u hu => by
    by_cases hj : i = j
    · subst hj
      have hl : i < ρ.length := by have := (List.getElem?_eq_some_iff.mp hu).1; rw [List.length_set] at this; exact this
      rw [List.getElem?_set_self hl] at hu
      cases hu
      exact ⟨w, List.getElem?_set_self (by rw [D.l]; exact hl), hw⟩
    · rw [List.getElem?_set_ne hj] at hu
      obtain ⟨x, h1, h2⟩ := D.s j u hu
      exact ⟨x, by rw [List.getElem?_set_ne hj]; exact h1, h2⟩
  oo := fun a b p xs ys h1 h2 h3 h4 => by
    by_cases ha : i = a
    · by_cases hb : i = b
      · rw [← ha, ← hb]
      · exfalso
        subst ha
        have hl : i < ρ.length := by have := (List.getElem?_eq_some_iff.mp h1).1; rw [List.length_set] at this; exact this
        rw [List.getElem?_set_self hl] at h1
        rw [List.getElem?_set_self (by rw [D.l]; exact hl)] at h3
        rw [List.getElem?_set_ne hb] at h2 h4
        exact ht xs p (Option.some.inj h1) (Option.some.inj h3) b ys h2 (fun z => hb z.symm) h4
    · by_cases hb : i = b
      · exfalso
        subst hb
        have hl : i < ρ.length := by have := (List.getElem?_eq_some_iff.mp h2).1; rw [List.length_set] at this; exact this
        rw [List.getElem?_set_self hl] at h2
        rw [List.getElem?_set_self (by rw [D.l]; exact hl)] at h4
        rw [List.getElem?_set_ne ha] at h1 h3
        exact ht ys p (Option.some.inj h2) (Option.some.inj h4) a xs h1 (fun z => ha z.symm) h3
      · rw [List.getElem?_set_ne ha] at h1 h3
        rw [List.getElem?_set_ne hb] at h2 h4
        exact D.oo a b p xs ys h1 h2 h3 h4
  x := D.x
theorem DS.setD (D : DS R K E XP F0 H0 B0 F H B σ ρ m) (i : Nat) {v : V} {d : PyData} (h : Dq K B v d) : DS R K E XP F0 H0 B0 F H B (σ.set i (some v)) (ρ.set i (.d d)) m :=
  D.setW i ⟨v, rfl, h⟩ fun _ _ e => by cases e
theorem DS.setR (D : DS R K E XP F0 H0 B0 F H B σ ρ m) (i : Nat) {v : V} {r : Rk} (h : RelR K Hs F H B v r) (ho : OwnB ρ σ Hs) (hs : ∀ x, H0 x ≠ none → Hs x ≠ none) : DS R K E XP F0 H0 B0 F H B (σ.set i (some v)) (ρ.set i (slOf r)) m := by
  cases r with
  | d x => exact D.setD i h
  | o xs =>
    obtain ⟨p, us, rfl, g1, g2, g3, g4, g5⟩ := h
    have h0 : H0 p = none := Classical.byContradiction fun z => hs p z g4
    refine D.setW i ⟨p, us, rfl, g1, g2, g3, h0, g5⟩ fun ys q _ hq j zs hj _ hz => ?_
    cases hq
    exact ho j zs p hj hz g4
  | l xs => exact D.setW i True.intro fun _ _ e => by cases e
  | v x => exact D.setW i (show some v = some x by rw [show v = x from h]) fun _ _ e => by cases e
  | c x => exact D.setW i True.intro fun _ _ e => by cases e
/-- a slot's own list changes -/
theorem DS.putO (D : DS R K E XP F0 H0 B0 F H B σ ρ m) {i : Nat} {p : Addr} {xs ys : List PyData} {vs : List V} (hi : ρ[i]? = some (.o xs)) (hp : σ[i]? = some (some (.ref p))) (hv : DqAll K B vs ys) : DS R K E XP F0 H0 B0 F (upd H p (.lst vs)) B σ (ρ.set i (.o ys)) m := by
  obtain ⟨w, h1, q, us, e, h2, h3, h4, h5, h6⟩ := D.s i _ hi
  rw [hp] at h1
  cases h1
  cases e
  have hl : i < ρ.length := (List.getElem?_eq_some_iff.mp hi).1
  refine ⟨by rw [List.length_set]; exact D.l, D.st.put h5 h3, R.frame D.r (fun x hx => upd_ne fun z => h4 (by rw [← z]; exact hx)) (Same.refl _), fun j t ht => ?_, fun a b r as bs k1 k2 k3 k4 => ?_, D.x⟩
  · by_cases hj : i = j
    · subst hj
      rw [List.getElem?_set_self hl] at ht
      cases ht
      exact ⟨_, hp, p, vs, rfl, upd_same, h3, h4, h5, hv⟩
    · rw [List.getElem?_set_ne hj] at ht
      obtain ⟨x, g1, g2⟩ := D.s j t ht
      refine ⟨x, g1, ?_⟩
      cases t with
      | u => exact True.intro
      | d y => exact g2
      | o zs =>
        obtain ⟨r, ws, rfl, k1, k2, k3, k4, k5⟩ := g2
        refine ⟨r, ws, rfl, ?_, k2, k3, k4, k5⟩
        rw [upd_ne (fun z => hj (by rw [z] at g1; exact D.oo i j p xs zs hi ht hp g1))]
        exact k1
      | v y => exact g2
  · have back : ∀ (c : Nat) (cs : List PyData), (ρ.set i (.o ys))[c]? = some (.o cs) → ∃ cs', ρ[c]? = some (.o cs') := fun c cs hc => by
      by_cases hci : i = c
      · subst hci; exact ⟨xs, hi⟩
      · rw [List.getElem?_set_ne hci] at hc; exact ⟨cs, hc⟩
    obtain ⟨as', k1'⟩ := back a as k1
    obtain ⟨bs', k2'⟩ := back b bs k2
    exact D.oo a b r as' bs' k1' k2' k3 k4
theorem wk_set : ∀ {i : Nat} {ρ : List Sl}, i < ρ.length → Wk ρ (ρ.set i .u)
  | i, [], h => by cases h
  | 0, a :: as, _ => ⟨.inr rfl, Wk.refl as⟩
  | i + 1, a :: as, h => ⟨.inl rfl, wk_set (by simpa using h)⟩
/-- a slot's own list becomes data -/
theorem DS.freezeS (D : DS R K E XP F0 H0 B0 F H B σ ρ m) {i : Nat} {xs : List PyData} (hi : ρ[i]? = some (.o xs)) : ∃ B', DS R K E XP F0 H0 B0 F H B' σ (ρ.set i (.d (.list xs))) m ∧ Same B B' ∧ (∀ x, H0 x ≠ none → B x = none → B' x = none) := by
  obtain ⟨w, h1, p, us, rfl, h2, h3, h4, h5, h6⟩ := D.s i _ hi
  have hl : i < ρ.length := (List.getElem?_eq_some_iff.mp hi).1
  have D1 : DS R K E XP F0 H0 B0 F H B σ (ρ.set i .u) m := D.wk (wk_set hl)
  have D2 := D1.freeze h2 h3 h4 h5 (fun j ys hj hz => by
    by_cases hji : i = j
    · subst hji; rw [List.getElem?_set_self hl] at hj; cases hj
    · rw [List.getElem?_set_ne hji] at hj
      exact hji (D.oo i j p xs ys hi hj h1 hz))
  refine ⟨upd B p (.lst us), ?_, same_upd h3, fun x hx hb => by rw [upd_ne (fun z => hx (by rw [z]; exact h5))]; exact hb⟩
  have D3 := D2.setD i (v := .ref p) (d := .list xs) (.lst upd_same (dqa_same (same_upd h3) _ h6))
  rw [List.set_set] at D3
  have e1 : σ.set i (some (.ref p)) = σ := set_self h1
  rw [e1] at D3
  exact D3
end
section
variable {M : Type} {R : MR M} {K : PySem.W.Frag} {E : XK} {XP : Addr → M → Prop} {ρ : List Sl} {m : M} {nx : List Sl → M → Prop} {rt : Rk → M → Prop} {bk ct : List Sl → M → Prop} {ta tb tc te : TE} {tr : TA} {t u : TS} {i : Nat}
theorem ws_seq (h : WS R K E XP ρ m t (fun ρ' m' => WS R K E XP ρ' m' u nx rt bk ct) rt bk ct) : WS R K E XP ρ m (tSeq t u) nx rt bk ct := by with_unfolding_all exact (fun D d n r b c =>
  h { D with nx := u D } d (fun w d' s' => w D d' (fun k e t => n k e (s'.trans t)) r (fun k e t => b k e (s'.trans t)) (fun k e t => c k e (s'.trans t))) r b c)
theorem ws_next (hk : nx ρ m) : WS R K E XP ρ m tNext nx rt bk ct := by with_unfolding_all exact (fun D d n _ _ _ => n hk d (Same.refl _))
theorem ws_brk (hk : bk ρ m) : WS R K E XP ρ m tBreak nx rt bk ct := by with_unfolding_all exact (fun D d _ _ b _ => b hk d (Same.refl _))
theorem ws_cont (hk : ct ρ m) : WS R K E XP ρ m tCont nx rt bk ct := by with_unfolding_all exact (fun D d _ _ _ c => c hk d (Same.refl _))
theorem ws_asg (h : WE R K E XP ρ m te fun r m1 => nx (ρ.set i (slOf r)) m1) : WS R K E XP ρ m (tAsg te (gName i)) nx rt bk ct := by with_unfolding_all exact (fun D d n _ _ _ =>
  h d _ fun v r m1 F1 H1 B1 k1 D1 q1 r1 => n k1 (D1.setR i r1 d.own fun x hx => d.st.e x hx) q1.b)
theorem ws_asgG {g : TG} (h : WE R K E XP ρ m te fun r m1 => ∃ x, r = .d x ∧ WG R K E XP ρ m1 g x fun ρ' => nx ρ' m1) : WS R K E XP ρ m (tAsg te g) nx rt bk ct := by with_unfolding_all exact (fun D d n _ _ _ =>
  h d _ fun v r m1 F1 H1 B1 ⟨x, e, k1⟩ D1 q1 r1 => by subst e; exact k1 D1 r1 _ fun σ' ρ' hk D2 => n hk D2 q1.b)
theorem wg_name {d : PyData} {k : List Sl → Prop} (hk : k (ρ.set i (.d d))) : WG R K E XP ρ m (gName i) d k := by with_unfolding_all exact (fun D hd Q q => q _ _ hk (D.setD i hd))
theorem wgs_nil {k : List Sl → Prop} (hk : k ρ) : WGs R K E XP ρ m gNil [] k := by with_unfolding_all exact (fun {F0 H0 B0 F H B σ vs} D hd Q q => by
  cases hd
  exact ⟨rfl, q _ _ hk D⟩)
theorem wgs_cons {g : TG} {gs : TGs} {d : PyData} {ds : List PyData} {k : List Sl → Prop} (h : WG R K E XP ρ m g d fun ρ1 => WGs R K E XP ρ1 m gs ds k) : WGs R K E XP ρ m (gCons g gs) (d :: ds) k := by with_unfolding_all exact (fun {F0 H0 B0 F H B σ vs} D hd Q q => by
  cases hd with
  | cons h1 h2 => exact ⟨_, _, rfl, h D h1 _ fun σ1 ρ1 k1 D1 => k1 D1 h2 _ fun σ2 ρ2 k2 D2 => q σ2 ρ2 k2 D2⟩)
theorem wg_tup {gs : TGs} {n : Nat} {ds : List PyData} {k : List Sl → Prop} (hn : ds.length = n) (h : WGs R K E XP ρ m gs ds k) : WG R K E XP ρ m (gTup K n gs) (.tuple ds) k := by with_unfolding_all exact (fun D hd Q q => by
  obtain ⟨p, vs, rfl, h1, h2⟩ := dq_tup hd
  exact ⟨p, vs, rfl, sqt_same D.st.s h1, by rw [dqa_len h2]; exact hn, h D h2 Q q⟩)
theorem ws_par {j : Nat} (h : WA R K E XP ρ m tr fun rs m1 => ∃ x y, DLo rs = some [x, y] ∧ nx ((ρ.set i (.d x)).set j (.d y)) m1) : WS R K E XP ρ m (tPar i j tr) nx rt bk ct := by with_unfolding_all exact (fun D d n _ _ _ =>
  wa_data (k' := fun ds m1 => ∃ x y, ds = [x, y] ∧ nx ((ρ.set i (.d x)).set j (.d y)) m1) (fun D Q q => h D Q fun vs rs m' F' H' B' ⟨x, y, e, k⟩ => q vs rs m' F' H' B' ⟨_, e, x, y, rfl, k⟩) d _ fun vs ds m1 F1 H1 B1 ⟨x, y, e, k1⟩ D1 q1 hd => by
    subst e
    cases hd with
    | cons h1 h2 =>
      cases h2 with
      | cons h2 h3 =>
        cases h3
        exact ⟨_, _, rfl, n k1 ((D1.setD i h1).setD j h2) q1.b⟩)
theorem ws_augI {f : Int → Int → Int} {a : Int} (hi : ρ[i]? = some (.d (.int a))) (h : WE R K E XP ρ m te fun r m1 => ∃ b, r = .d (.int b) ∧ nx (ρ.set i (.d (.int (f a b)))) m1) : WS R K E XP ρ m (tAug i te (ipI f)) nx rt bk ct := by with_unfolding_all exact (fun D d n _ _ _ => by
  obtain ⟨w, h1, v, rfl, h2⟩ := d.s i _ hi
  cases dq_int h2
  refine ⟨_, h1, h d _ fun v r m1 F1 H1 B1 ⟨b, e, k1⟩ D1 q1 r1 => ?_⟩
  subst e
  exact ⟨a, b, rfl, dq_int r1, n k1 (D1.setD i (.int _)) q1.b⟩)
theorem ws_drop (h : WE R K E XP ρ m te fun _ m1 => nx ρ m1) : WS R K E XP ρ m (tDrop te) nx rt bk ct := by with_unfolding_all exact (fun D d n _ _ _ => h d _ fun v r m1 F1 H1 B1 k1 D1 q1 _ => n k1 D1 q1.b)
theorem ws_append {xs : List PyData} (hi : ρ[i]? = some (.o xs)) (hl : xs.length < 90000) (h : WA R K E XP ρ m tr fun rs m1 => ∃ x, DLo rs = some [x] ∧ nx (ρ.set i (.o (xs ++ [x]))) m1) : WS R K E XP ρ m (tDrop (tBM K "list" rAppend (tVar i) tr)) nx rt bk ct := by with_unfolding_all exact (fun D d n _ _ _ => by
  obtain ⟨w, h1, p, us, rfl, h2, h3, h4, h5, h6⟩ := d.s i _ hi
  refine ⟨.ref p, h1, .inl ⟨rfl, _, sql h2⟩, ?_⟩
  refine wa_data (k' := fun ds m1 => ∃ x, ds = [x] ∧ nx (ρ.set i (.o (xs ++ [x]))) m1) (fun D Q q => h D Q fun vs rs m' F' H' B' ⟨x, e, k⟩ => q vs rs m' F' H' B' ⟨_, e, x, rfl, k⟩) d _ fun vs ds m1 F1 H1 B1 ⟨x, e, k1⟩ D1 q1 hd => ?_
  subst e
  cases hd with
  | cons g1 g2 =>
    cases g2
    have e1 := q1.k _ _ h2 h4
    have hu := dqa_len h6
    exact ⟨p, us, _, rfl, rfl, e1, szl (by omega), n k1 (D1.putO hi h1 (dqa_app (dqa_same q1.b _ h6) (.cons g1 .nil))) q1.b⟩)
theorem ws_ret (h : WE R K E XP ρ m te fun r m1 => rt r m1) : WS R K E XP ρ m (tRet te) nx rt bk ct := by with_unfolding_all exact (fun D d _ rt _ _ => h d _ fun v r m1 F1 H1 B1 k1 D1 q1 r1 => rt k1 D1.st D1.r (r1.base fun x hx => d.st.e x hx))
theorem ws_retO {xs : List PyData} (hi : ρ[i]? = some (.o xs)) (hk : rt (.o xs) m) : WS R K E XP ρ m (tRet (tVar i)) nx rt bk ct := by with_unfolding_all exact (fun D d _ rt _ _ => by
  obtain ⟨w, h1, p, us, rfl, h2, h3, h4, h5, h6⟩ := d.s i _ hi
  exact ⟨_, h1, rt hk d.st d.r ⟨p, us, rfl, h2, h3, h4, h5, h6⟩⟩)
theorem ws_retN (hk : rt (.d .none) m) : WS R K E XP ρ m tRetN nx rt bk ct := by with_unfolding_all exact (fun D d _ rt _ _ => rt hk d.st d.r .non)
theorem ws_if {c : TT} (h : WT R K E XP ρ m c fun b m1 => (b = true → WS R K E XP ρ m1 t nx rt bk ct) ∧ (b = false → WS R K E XP ρ m1 u nx rt bk ct)) : WS R K E XP ρ m (tIfS c t u) nx rt bk ct := by with_unfolding_all exact (fun D d n r b c =>
  h d _ fun x m1 F1 H1 B1 k1 D1 q1 => by
    cases x with
    | true => exact (if_pos rfl).mpr (k1.1 rfl D D1 (fun k e t => n k e (q1.b.trans t)) r (fun k e t => b k e (q1.b.trans t)) (fun k e t => c k e (q1.b.trans t)))
    | false => exact (if_neg Bool.false_ne_true).mpr (k1.2 rfl D D1 (fun k e t => n k e (q1.b.trans t)) r (fun k e t => b k e (q1.b.trans t)) (fun k e t => c k e (q1.b.trans t))))
theorem ws_freeze {xs : List PyData} (i : Nat) (hi : ρ[i]? = some (.o xs)) (h : WS R K E XP (ρ.set i (.d (.list xs))) m t nx rt bk ct) : WS R K E XP ρ m t nx rt bk ct := by with_unfolding_all exact (fun D d n r b c => by
  obtain ⟨B', D', s', _⟩ := d.freezeS hi
  exact h D D' (fun k e t => n k e (s'.trans t)) r (fun k e t => b k e (s'.trans t)) (fun k e t => c k e (s'.trans t)))
theorem ws_wk {ρ' : List Sl} (w : Wk ρ ρ') (h : WS R K E XP ρ' m t nx rt bk ct) : WS R K E XP ρ m t nx rt bk ct := by with_unfolding_all exact (fun D d n r b c => h D (d.wk w) n r b c)
/-- the slots that stay known behind a turn -/
def Nxt (S : Type) (ρs : S → List Sl) (ms : S → M) (I : S → Prop) (ρ' : List Sl) (m' : M) : Prop := ∃ s, Wk ρ' (ρs s) ∧ m' = ms s ∧ I s
theorem nxt {S : Type} {ρs : S → List Sl} {ms : S → M} {I : S → Prop} {ρ' : List Sl} {m' : M} (s : S) (w : Wk ρ' (ρs s)) (e : m' = ms s) (i : I s) : Nxt S ρs ms I ρ' m' := ⟨s, w, e, i⟩
/-- what follows is shown once -/
theorem ws_cut (S : Type) (ρs : S → List Sl) (I : S → Prop) (h : WS R K E XP ρ m t (Nxt S ρs (fun _ => m) I) rt bk ct) (g : ∀ s, I s → WS R K E XP (ρs s) m u nx rt bk ct) : WS R K E XP ρ m (C8.tCut t u) nx rt bk ct := by with_unfolding_all exact (fun {F0 H0 B0 F H B σ} D d n r b c =>
  ⟨fun σ' H' => ∃ s F' B', I s ∧ DS R K E XP F0 H0 B0 F' H' B' σ' (ρs s) m ∧ Same B B', h { D with nx := _ } d (fun ⟨s, w, e, i⟩ d' t => by subst e; exact ⟨s, _, _, i, d'.wk w, t⟩) r b c, fun σ' H' ⟨s, F', B', i, d', s'⟩ => g s i D d' (fun k e t => n k e (s'.trans t)) r (fun k e t => b k e (s'.trans t)) (fun k e t => c k e (s'.trans t))⟩)
/-! loops -/
/-- what is walked gives data and changes nothing -/
def WkI (K : PySem.W.Frag) (J : It) (B : Hp) (xs : List PyData) : Prop := ∃ (n : Nat) (G : Hp → Prop) (Y : Nat → Hp → V → Hp → Prop), n = xs.length ∧ Walk J n G Y ∧ (∀ H, Same B H → G H) ∧ ∀ i H x H', i < n → Y i H x H' → Same B H → H' = H ∧ ∃ d, xs[i]? = some d ∧ Dq K B x d
@[irreducible] def WI (R : MR M) (K : PySem.W.Frag) (E : XK) (XP : Addr → M → Prop) (ρ : List Sl) (m : M) (wi : TI) (k : List PyData → M → Prop) : Prop := ∀ {F0 H0 B0 F H B σ}, DS R K E XP F0 H0 B0 F H B σ ρ m → ∀ Q : It → Hp → Prop, (∀ J xs m' F' H' B', k xs m' → DS R K E XP F0 H0 B0 F' H' B' σ ρ m' → Stq F H B F' H' B' → WkI K J B' xs → Q J H') → wi σ H Q
/-- a result that is a list, as data -/
def LDo : Rk → Option (List PyData)
  | .d (.list xs) => some xs
  | .o xs => some xs
  | _ => none
theorem wi_list {k : List PyData → M → Prop} (h : WE R K E XP ρ m te fun r m1 => ∃ xs, LDo r = some xs ∧ k xs m1) : WI R K E XP ρ m (iList K te) k := by with_unfolding_all exact (fun D Q q =>
  h D _ fun v r m1 F1 H1 B1 ⟨xs, e, k1⟩ D1 q1 r1 => by
    have fin : ∀ (B' : Hp) (p : Addr) (vs : List V), Same B1 B' → DS R K E XP _ _ _ F1 H1 B' _ ρ m1 → (∀ x, _ → B1 x = none → B' x = none) → B' p = some (.lst vs) → DqAll K B' vs xs → ∃ a, V.ref p = .ref a ∧ (∃ xs, SqL K H1 a xs) ∧ Q (Itl K a) H1 := fun B' p vs b1 D' f' hp hd =>
      ⟨p, rfl, ⟨vs, sql (D'.st.s _ _ hp)⟩, q _ xs m1 F1 H1 B' k1 D' ⟨q1.b.trans b1, D'.st.s, fun x h1 h2 => f' x h1 (q1.f x h1 h2), q1.k, q1.n, q1.e⟩ ⟨vs.length, _, _, dqa_len hd, walk_list, fun H hs => sql (hs _ _ hp), fun i H x H' _ hy hs => ⟨hy.1, by obtain ⟨d, h1, h2⟩ := dqa_atV hd hy.2; exact ⟨d, h1, h2⟩⟩⟩⟩
    cases r with
    | d x =>
      cases x with
      | list ys =>
        cases e
        obtain ⟨p, vs, rfl, g1, g2⟩ := dq_lst r1
        exact fin B1 p vs (Same.refl _) D1 (fun _ _ h => h) g1 g2
      | _ => cases e
    | o ys =>
      cases e
      obtain ⟨p, vs, rfl, g1, g2, g3, g4, g5⟩ := r1
      have h0 : ∀ x, _ → _ := fun x hx => D.st.e x hx
      have hp0 : _ := Classical.byContradiction fun z => h0 p z g4
      refine fin (upd B1 p (.lst vs)) p vs (same_upd g2) (D1.freeze g1 g2 g3 hp0 fun j ys hj hz => D.own j ys p hj hz g4) (fun x hx hb => ?_) upd_same (dqa_same (same_upd g2) _ g5)
      rw [upd_ne (fun z => hx (by rw [z]; exact g4))]
      exact hb
    | l _ => cases e
    | v _ => cases e
    | c _ => cases e)
theorem wi_tup {k : List PyData → M → Prop} (h : WE R K E XP ρ m te fun r m1 => ∃ xs, r = .d (.tuple xs) ∧ k xs m1) : WI R K E XP ρ m (iTup K te) k := by with_unfolding_all exact (fun D Q q =>
  h D _ fun v r m1 F1 H1 B1 ⟨xs, e, k1⟩ D1 q1 r1 => by
    subst e
    obtain ⟨p, vs, rfl, g1, g2⟩ := dq_tup r1
    exact ⟨p, rfl, ⟨vs, sqt_same D1.st.s g1⟩, q _ xs m1 F1 H1 B1 k1 D1 q1 ⟨vs.length, _, _, dqa_len g2, walk_tup, fun H hs => sqt_same hs g1, fun i H x H' _ hy hs => ⟨hy.1, by obtain ⟨d, h1, h2⟩ := dqa_atV g2 hy.2; exact ⟨d, h1, h2⟩⟩⟩⟩)
/-- the signs of a text -/
def signs (z : Str) : List PyData := z.cps.toList.map fun c => .str ⟨#[c]⟩
theorem wi_str {k : List PyData → M → Prop} (h : WE R K E XP ρ m te fun r m1 => ∃ z, r = .d (.str z) ∧ k (signs z) m1) : WI R K E XP ρ m (iStr te) k := by with_unfolding_all exact (fun D Q q =>
  h D _ fun v r m1 F1 H1 B1 ⟨z, e, k1⟩ D1 q1 r1 => by
    subst e
    exact ⟨z, dq_str r1, q _ _ m1 F1 H1 B1 k1 D1 q1 ⟨z.cps.size, _, _, by unfold signs; simp, walk_str, fun _ _ => True.intro, fun i H x H' _ hy hs => by
      obtain ⟨h1, c, hc, rfl⟩ := hy
      refine ⟨h1, _, ?_, .str _⟩
      unfold signs
      rw [List.getElem?_map]
      have : z.cps.toList[i]? = some c := by simpa using hc
      rw [this]; rfl⟩⟩)
/-- the numbers of a range -/
def nums (lo : Int) (n : Nat) : List PyData := (List.range n).map fun (j : Nat) => .int (lo + (j : Int))
theorem nums_len (lo : Int) (n : Nat) : (nums lo n).length = n := by unfold nums; rw [List.length_map, List.length_range]
theorem nums_at {lo : Int} {n i : Nat} {x : PyData} (h : (nums lo n)[i]? = some x) : i < n ∧ x = .int (lo + (i : Int)) := by
  unfold nums at h
  rw [List.getElem?_map] at h
  by_cases hi : i < n
  · rw [List.getElem?_range hi] at h
    exact ⟨hi, (Option.some.inj h).symm⟩
  · rw [List.getElem?_eq_none (by rw [List.length_range]; omega)] at h
    cases h
theorem wkI_range {B : Hp} {lo : Int} {n : Nat} : WkI K (Itr lo n) B (nums lo n) := ⟨n, _, _, (nums_len lo n).symm, walk_range, fun _ _ => True.intro, fun i H x H' hi hy hs => by
  obtain ⟨h1, rfl⟩ := hy
  refine ⟨h1, .int (lo + i), ?_, .int _⟩
  unfold nums
  rw [List.getElem?_map, List.getElem?_range hi]; rfl⟩
theorem wi_rng1 {k : List PyData → M → Prop} (h : WA R K E XP ρ m tr fun rs m1 => ∃ j, rs = [.d (.int j)] ∧ -(2 ^ 62) ≤ j ∧ j < 2 ^ 62 ∧ k (nums 0 j.toNat) m1) : WI R K E XP ρ m (iRng1 tr) k := by with_unfolding_all exact (fun D Q q =>
  h D _ fun vs rs m1 F1 H1 B1 ⟨j, e, h1, h2, k1⟩ D1 q1 r1 => by
    subst e
    obtain ⟨v, rfl, r2⟩ := relA1 r1
    exact ⟨j, by rw [dq_int r2], h1, h2, q _ _ m1 F1 H1 B1 k1 D1 q1 wkI_range⟩)
theorem wi_rng2 {k : List PyData → M → Prop} (h : WA R K E XP ρ m tr fun rs m1 => ∃ i j, rs = [.d (.int i), .d (.int j)] ∧ (-(2 ^ 62) ≤ i ∧ i < 2 ^ 62 ∧ -(2 ^ 62) ≤ j ∧ j < 2 ^ 62) ∧ k (nums i (j - i).toNat) m1) : WI R K E XP ρ m (iRng2 tr) k := by with_unfolding_all exact (fun D Q q =>
  h D _ fun vs rs m1 F1 H1 B1 ⟨i, j, e, h1, k1⟩ D1 q1 r1 => by
    subst e
    obtain ⟨v, w, rfl, r2, r3⟩ := relA2 r1
    exact ⟨i, j, by rw [dq_int r2, dq_int r3], h1, q _ _ m1 F1 H1 B1 k1 D1 q1 wkI_range⟩)
theorem ws_for {wi : TI} {g : TG} {tb : TS} (h : WI R K E XP ρ m wi fun xs m1 => ∃ (S : Type) (ρs : S → List Sl) (ms : S → M) (I : Nat → S → Prop), Nxt S ρs ms (I 0) ρ m1 ∧
    (∀ i x s, xs[i]? = some x → I i s → WG R K E XP (ρs s) (ms s) g x fun ρ1 => WS R K E XP ρ1 (ms s) tb (Nxt S ρs ms (I (i + 1))) rt nx (Nxt S ρs ms (I (i + 1)))) ∧
    ∀ s, I xs.length s → nx (ρs s) (ms s)) : WS R K E XP ρ m (tFor wi g tb) nx rt bk ct := by with_unfolding_all exact (fun {F0 H0 B0 F H B σ} D d n r b c => by
  refine h d _ fun J xs m1 F1 H1 B1 ⟨S, ρs, ms, I, ⟨s0, w0, e0, i0⟩, step, fin⟩ D1 q1 hw => ?_
  obtain ⟨nn, G, Y, hn, wk, hG, hY⟩ := hw
  refine for_it wk (fun i σ' H' => ∃ s F' B', I i s ∧ DS R K E XP F0 H0 B0 F' H' B' σ' (ρs s) (ms s) ∧ Same B1 B') ⟨s0, F1, B1, i0, by subst e0; exact D1.wk w0, Same.refl _⟩ (fun i σ' H' _ ⟨s, F', B', _, D', b'⟩ => hG H' (b'.trans D'.st.s)) ?_ ?_
  · rintro i x σ' H' H2 hi ⟨s, F', B', hI, D', b'⟩ hy
    obtain ⟨rfl, dd, hx, hd⟩ := hY i H' x H2 hi hy (b'.trans D'.st.s)
    refine step i dd s hx hI D' (dq_same b' _ hd) _ fun σ2 ρ2 hs D2 => ?_
    exact hs { D with nx := _, ct := _, bk := _ } D2 (fun ⟨s, w, e, i⟩ d' t => by subst e; exact ⟨s, _, _, i, d'.wk w, b'.trans t⟩) r (fun k e t => n k e (q1.b.trans (b'.trans t))) (fun ⟨s, w, e, i⟩ d' t => by subst e; exact ⟨s, _, _, i, d'.wk w, b'.trans t⟩)
  · rintro σ' H' ⟨s, F', B', hI, D', b'⟩
    rw [hn] at hI
    exact n (fin s hI) D' (q1.b.trans b'))
end
/-! ## comprehensions -/
def wipeS (ρ : List Sl) : List Nat → List Sl
  | [] => ρ
  | v :: vs => (wipeS ρ vs).set v .u
theorem wipe_idem (σ : L2.St) (vs : List Nat) : wipe (wipe σ vs) vs = wipe σ vs := by
  refine List.ext_getElem? fun j => ?_
  by_cases hj : j ∈ vs
  · rw [wipe_in hj, wipe_in hj, wipe_length]
  · rw [wipe_out hj]
section
variable {M : Type} {R : MR M} {K : PySem.W.Frag} {E : XK} {XP : Addr → M → Prop} {ρ : List Sl} {m : M} {F0 F : AP} {H0 B0 H B Hs : Hp} {σ : L2.St}
theorem DS.wipe (D : DS R K E XP F0 H0 B0 F H B σ ρ m) : ∀ vs : List Nat, DS R K E XP F0 H0 B0 F H B (wipe σ vs) (wipeS ρ vs) m
  | [] => D
  | v :: vs => (DS.wipe D vs).setW v True.intro fun _ _ e => by cases e
theorem DS.putN (D : DS R K E XP F0 H0 B0 F H B σ ρ m) {p : Addr} {o : HO} (hb : B p = none) (hF : ¬ F p) (h0 : H0 p = none) (hn : ∀ (i : Nat) (xs : List PyData), ρ[i]? = some (.o xs) → σ[i]? ≠ some (some (.ref p))) : DS R K E XP F0 H0 B0 F (upd H p o) B σ ρ m where
  l := D.l
  st := D.st.put h0 hb
  r := R.frame D.r (fun x hx => upd_ne fun z => hF (by rw [← z]; exact hx)) (Same.refl _)
  s := fun i t ht => by
    obtain ⟨w, h1, h2⟩ := D.s i t ht
    refine ⟨w, h1, ?_⟩
    cases t with
    | u => exact True.intro
    | d x => exact h2
    | o xs =>
      obtain ⟨q, us, rfl, h3, h4, h5, h6, h7⟩ := h2
      refine ⟨q, us, rfl, ?_, h4, h5, h6, h7⟩
      rw [upd_ne (fun z => hn i xs ht (by rw [h1, z]))]
      exact h3
    | v x => exact h2
  oo := D.oo
  x := D.x
end
section
variable {M : Type} {R : MR M} {K : PySem.W.Frag} {E : XK} {XP : Addr → M → Prop} {ρ : List Sl} {m : M} {k : Rk → M → Prop} {ta tb tc te : TE} {tr : TA}
/-- a target sets no other slots than these -/
def Wipes (g : TG) (vs : List Nat) : Prop := ∀ v σ H Q Q', g v σ H Q → (∀ σ', Q σ' H → L2.wipe σ' vs = L2.wipe σ vs → Q' σ' H) → g v σ H Q'
def WipesS (g : TGs) (vs : List Nat) : Prop := ∀ v σ H Q Q', g v σ H Q → (∀ σ', Q σ' H → L2.wipe σ' vs = L2.wipe σ vs → Q' σ' H) → g v σ H Q'
theorem wipes_name {i : Nat} {vs : List Nat} (h : i ∈ vs) : Wipes (gName i) vs := fun v σ H Q Q' q w => w _ q (wipe_set h)
theorem wipes_nil {vs : List Nat} : WipesS gNil vs := fun v σ H Q Q' ⟨e, q⟩ w => ⟨e, w _ q rfl⟩
theorem wipes_cons {g : TG} {gs : TGs} {vs : List Nat} (h1 : Wipes g vs) (h2 : WipesS gs vs) : WipesS (gCons g gs) vs := fun v σ H Q Q' ⟨x, xs, e, q⟩ w =>
  ⟨x, xs, e, h1 _ _ _ _ _ q fun σ' q' w' => h2 _ _ _ _ _ q' fun σ'' q'' w'' => w _ q'' (w''.trans w')⟩
theorem wipes_tup {n : Nat} {gs : TGs} {vs : List Nat} (h : WipesS gs vs) : Wipes (gTup K n gs) vs := fun v σ H Q Q' ⟨p, xs, e, h1, h2, q⟩ w => ⟨p, xs, e, h1, h2, h _ _ _ _ _ q w⟩
theorem we_lc {wi : TI} {g : TG} {tt : TT} {vs : List Nat} (hsl : Wipes g vs) (h : WI R K E XP ρ m wi fun xs m1 => ∃ (I : Nat → List PyData → Prop), I 0 [] ∧
    (∀ i x ys, xs[i]? = some x → I i ys → WG R K E XP (wipeS ρ vs) m1 g x fun ρ1 => WT R K E XP ρ1 m1 tt fun b m2 => m2 = m1 ∧
      (b = true → WA R K E XP ρ1 m1 (tCons te tNil) fun rs m3 => m3 = m1 ∧ ∃ y, DLo rs = some [y] ∧ ys.length < 90000 ∧ I (i + 1) (ys ++ [y])) ∧ (b = false → I (i + 1) ys)) ∧
    ∀ ys, I xs.length ys → k (.o ys) m1) : WE R K E XP ρ m (tLc wi g tt te vs) k := by with_unfolding_all exact (fun {F0 H0 B0 F H B σ} D Q q =>
  h D _ fun J xs m1 F1 H1 B1 ⟨I, i0, step, fin⟩ D1 q1 ⟨n, G, Y, hn, wk, hG, hY⟩ A hA => by
    have hA0 : H0 A = none := Classical.byContradiction fun z => D1.st.e A z hA
    have hAn : ∀ (i : Nat) (xs : List PyData), ρ[i]? = some (.o xs) → σ[i]? ≠ some (some (.ref A)) := fun i xs h1 h2 => D1.own i xs A h1 h2 hA
    refine lc_it wk (fun i G' => ∃ F' B' us ys, I i ys ∧ DS R K E XP F0 H0 B0 F' G' B' σ ρ m1 ∧ Stq F1 H1 B1 F' G' B' ∧ G' A = some (.lst us) ∧ B' A = none ∧ ¬ F' A ∧ DqAll K B' us ys)
      ⟨F1, B1, [], [], i0, D1.newO hA, .newO D1.st.s hA, upd_same, b_none D1.st.s hA, D1.nF hA, .nil⟩ (fun i G' _ ⟨F', B', _, _, _, D', q', _⟩ => hG G' (q'.b.trans D'.st.s)) ?_ ?_
    · rintro i x G' G2 hi ⟨F', B', us, ys, hI, D', q', eA, bA, fA, hd⟩ hy
      obtain ⟨rfl, dd, hx, hdx⟩ := hY i G' x G2 hi hy (q'.b.trans D'.st.s)
      have Dw := D'.wipe vs
      refine hsl _ _ _ _ _ (step i dd ys hx hI Dw (dq_same q'.b _ hdx) (fun σ2 H2 => H2 = G2 → ∃ ρ2, (WT R K E XP ρ2 m1 tt fun b m2 => m2 = m1 ∧ (b = true → WA R K E XP ρ2 m1 (tCons te tNil) fun rs m3 => m3 = m1 ∧ ∃ y, DLo rs = some [y] ∧ ys.length < 90000 ∧ I (i + 1) (ys ++ [y])) ∧ (b = false → I (i + 1) ys)) ∧ DS R K E XP F0 H0 B0 F' G2 B' σ2 ρ2 m1) fun σ2 ρ2 hT D2 _ => ⟨ρ2, hT, D2⟩) fun σ2 hq2 w2 => ⟨w2.trans (wipe_idem σ vs), ?_⟩
      obtain ⟨ρ2, hT, D2⟩ := hq2 rfl
      refine hT D2 _ fun b m2 F3 H3 B3 ⟨e2, hb1, hb2⟩ D3 q3 => ?_
      subst e2
      have eA3 := q3.k _ _ eA fA
      have hAne : G2 A ≠ none := by rw [eA]; simp
      cases b with
      | false =>
        refine (if_neg Bool.false_ne_true).mpr ⟨F3, B3, us, ys, hb2 rfl, D'.step q3 D3.r, q'.trans q3, eA3, q3.f _ hAne bA, q3.n _ hAne fA, dqa_same q3.b _ hd⟩
      | true =>
        refine (if_pos rfl).mpr ?_
        have hfin := wa_data (k' := fun ds m3 => m3 = m2 ∧ ∃ y, ds = [y] ∧ ys.length < 90000 ∧ I (i + 1) (ys ++ [y])) (fun D Q q => hb1 rfl D Q fun vs rs m' F' H' B' ⟨e, y, e2, hl, hk⟩ => q vs rs m' F' H' B' ⟨_, e2, e, y, rfl, hl, hk⟩) D3 (fun vs H4 => match vs with
          | [y] => ∃ acc, H4 A = some (.lst acc) ∧ acc.length < sizeLine ∧ ∃ F' B' us ys, I (i + 1) ys ∧ DS R K E XP F0 H0 B0 F' (upd H4 A (.lst (acc ++ [y]))) B' σ ρ m2 ∧ Stq F1 H1 B1 F' (upd H4 A (.lst (acc ++ [y]))) B' ∧ (upd H4 A (.lst (acc ++ [y]))) A = some (.lst us) ∧ B' A = none ∧ ¬ F' A ∧ DqAll K B' us ys
          | _ => False) (fun ws ds m4 F4 H4 B4 ⟨e, y, e2, hl, hk⟩ D4 q4 hd4 => by
          subst e e2
          obtain ⟨z, rfl⟩ : ∃ z, ws = [z] := by
            cases hd4 with
            | cons _ h => cases h; exact ⟨_, rfl⟩
          have q34 := q3.trans q4
          have eA4 := q34.k _ _ eA fA
          have bA4 := q34.f _ hAne bA
          have fA4 := q34.n _ hAne fA
          have hus := dqa_len hd
          have q5 := q'.trans q34
          exact ⟨us, eA4, szl (by omega), F4, B4, us ++ [z], ys ++ [y], hk, (D'.step q34 D4.r).putN bA4 fA4 hA0 hAn, q5.put hA bA4, upd_same, bA4, fA4, dqa_app (dqa_same q34.b _ hd) hd4⟩)
        exact hfin
    · rintro G' ⟨F', B', us, ys, hI, D', q', eA, bA, fA, hd⟩
      rw [hn] at hI
      exact q _ _ m1 F' G' B' (fin ys hI) D' (q1.trans q') ⟨A, us, rfl, eA, bA, fA, Classical.byContradiction fun z => q1.e A z hA, hd⟩)
end
section
variable {M : Type} {R : MR M} {K : PySem.W.Frag} {E : XK} {XP : Addr → M → Prop} {ρ : List Sl} {m : M} {k : Rk → M → Prop} {ta tb tc te : TE} {tr : TA} {i j : Int}
theorem opP_add (hk : k (.d (.int (i + j))) m) : OpP R K E XP ρ m (rI0 fun i j => .int (i + j)) (.d (.int i)) (.d (.int j)) k := opP_i0 hk
theorem opP_sub (hk : k (.d (.int (i - j))) m) : OpP R K E XP ρ m (rI0 fun i j => .int (i - j)) (.d (.int i)) (.d (.int j)) k := opP_i0 hk
theorem opP_lt (hk : k (.d (.bool (decide (i < j)))) m) : OpP R K E XP ρ m (rI0 fun i j => .bl (decide (i < j))) (.d (.int i)) (.d (.int j)) k := opP_i0 hk
theorem opP_le (hk : k (.d (.bool (decide (i ≤ j)))) m) : OpP R K E XP ρ m (rI0 fun i j => .bl (decide (i ≤ j))) (.d (.int i)) (.d (.int j)) k := opP_i0 hk
theorem opP_gt (hk : k (.d (.bool (decide (j < i)))) m) : OpP R K E XP ρ m (rI0 fun i j => .bl (decide (j < i))) (.d (.int i)) (.d (.int j)) k := opP_i0 hk
theorem opP_ge (hk : k (.d (.bool (decide (j ≤ i)))) m) : OpP R K E XP ρ m (rI0 fun i j => .bl (decide (j ≤ i))) (.d (.int i)) (.d (.int j)) k := opP_i0 hk
theorem opP_mul (hc : CMul i j) (hk : k (.d (.int (i * j))) m) : OpP R K E XP ρ m (rI CMul fun i j => .int (i * j)) (.d (.int i)) (.d (.int j)) k := opP_ic hc hk
theorem opP_mod (hc : 0 < j) (hk : k (.d (.int (i % j))) m) : OpP R K E XP ρ m (rI (fun _ j => 0 < j) fun i j => .int (i % j)) (.d (.int i)) (.d (.int j)) k := opP_ic (C := fun _ j => 0 < j) (g := fun i j => .int (i % j)) hc hk
theorem opP_fdiv (hc : CDiv i j) (hk : k (.d (.int (i / j))) m) : OpP R K E XP ρ m (rI CDiv fun i j => .int (i / j)) (.d (.int i)) (.d (.int j)) k := opP_ic hc hk
theorem we_chain {r r' : R2} (h : WE R K E XP ρ m ta fun a m1 => WE R K E XP ρ m1 tb fun b m2 => OpP R K E XP ρ m2 r a b fun c m3 => ∃ z, c = .d (.bool z) ∧ (z = true → WE R K E XP ρ m3 tc fun d m4 => OpP R K E XP ρ m4 r' b d k) ∧ (z = false → k (.d (.bool false)) m3)) : WE R K E XP ρ m (tChain r r' ta tb tc) k := by with_unfolding_all exact (fun D Q q =>
  h D _ fun v a m1 F1 H1 B1 k1 D1 q1 r1 => k1 D1 _ fun w b m2 F2 H2 B2 k2 D2 q2 r2 => k2 D2 (r1.step q2) (r2.base fun x hx => q1.e x hx) _ fun z c m3 F3 H3 B3 ⟨y, e, k3, k4⟩ D3 q3 r3 => by
    subst e
    refine ⟨y, dq_bl r3, ?_⟩
    cases y with
    | true => exact (if_pos rfl).mpr (k3 rfl D3 _ fun u d m4 F4 H4 B4 k5 D4 q4 r4 => k5 D4 ((r2.step q3).step q4) (r4.base fun x hx => q3.e x (q2.e x hx)) _ fun v c m' F' H' B' k6 D5 q5 r5 => q v c m' F' H' B' k6 D5 (q1.trans (q2.trans (q3.trans (q4.trans q5)))) (r5.base fun x hx => q4.e x (q3.e x (q2.e x (q1.e x hx)))))
    | false => exact (if_neg Bool.false_ne_true).mpr (q _ _ m3 F3 H3 B3 (k4 rfl) D3 (q1.trans (q2.trans q3)) (.bl false)))
/-- truth -/
def truD : PyData → Option Bool
  | .none => some false
  | .bool b => some b
  | .int i => some (i != 0)
  | .str x => if x.length ≤ 100000 then some ((x.length : Int) != 0) else none
  | .list xs => some (!xs.isEmpty)
  | .tuple xs => some (!xs.isEmpty)
  | _ => none
theorem wt_tru {k : Bool → M → Prop} (h : WE R K E XP ρ m te fun r m1 => ∃ d b, asD r = some d ∧ truD d = some b ∧ k b m1) : WT R K E XP ρ m (tTru K te) k := by with_unfolding_all exact (fun D Q q =>
  h D _ fun v r m1 F1 H1 B1 ⟨d, b, e, t, k1⟩ D1 q1 r1 => by
    refine ⟨b, ?_, q b m1 F1 H1 B1 k1 D1 q1⟩
    have hd := rel_asD D1.st.s r1 e
    have ie : ∀ {vs : List V} {ds : List PyData}, vs.length = ds.length → vs.isEmpty = ds.isEmpty := fun {vs ds} h => by cases vs <;> cases ds <;> first | rfl | cases h
    cases hd with
    | non => cases t; rfl
    | bl b => cases t; rfl
    | int i => cases t; rfl
    | str x =>
      by_cases hl : x.length ≤ 100000
      · have : some ((x.length : Int) != 0) = some b := by rw [← t]; exact (if_pos hl).symm
        cases this
        exact ⟨sz hl, rfl⟩
      · have : none = some b := by rw [← t]; exact (if_neg hl).symm
        cases this
    | lst h a => cases t; exact .inl ⟨_, h, by rw [ie (dpa_len a)]⟩
    | tup h a => cases t; exact .inr (.inl ⟨_, h, by rw [ie (dpa_len a)]⟩))
theorem callK_all {X : Cx} (h : X.K = K) (hc : X.calm = true) : CallR X (.builtin "all") (rAll K) := by subst h; exact cr_all hc
theorem callK_any {X : Cx} (h : X.K = K) (hc : X.calm = true) : CallR X (.builtin "any") (rAny K) := by subst h; exact cr_any hc
theorem callK_sum {X : Cx} (h : X.K = K) (hc : X.calm = true) : CallR X (.builtin "sum") (rSum K) := by subst h; exact cr_sum hc
theorem dqa_bools {H : Hp} : ∀ {bs : List Bool} {vs : List V}, DqAll K H vs (bs.map .bool) → vs = bs.map V.bl
  | [], _, h => by cases h; rfl
  | b :: bs, _, h => by
    cases h with
    | cons h1 h2 => rw [dq_bl h1, dqa_bools h2]; rfl
theorem dqa_intsV {H : Hp} : ∀ {bs : List Int} {vs : List V}, DqAll K H vs (bs.map .int) → vs = bs.map V.int
  | [], _, h => by cases h; rfl
  | b :: bs, _, h => by
    cases h with
    | cons h1 h2 => rw [dq_int h1, dqa_intsV h2]; rfl
theorem dqa_strsV {H : Hp} : ∀ {bs : List Str} {vs : List V}, DqAll K H vs (bs.map .str) → vs = bs.map V.str
  | [], _, h => by cases h; rfl
  | b :: bs, _, h => by
    cases h with
    | cons h1 h2 => rw [dq_str h1, dqa_strsV h2]; rfl
theorem cbP_all {a : Rk} {bs : List Bool} (ha : LR a (bs.map .bool)) (hk : k (.d (.bool (bs.all id))) m) : CbP R K E XP ρ m (rAll K) [a] k :=
  cbP_sc (v := .bl (bs.all id)) rfl (fun s ra Q q => by
    obtain ⟨v, rfl, r1⟩ := relA1 ra
    obtain ⟨p, vs, rfl, h1, h2⟩ := rel_lst s r1 ha
    cases dqa_bools h2
    exact ⟨p, bs, rfl, sql h1, q⟩) hk
theorem cbP_any {a : Rk} {bs : List Bool} (ha : LR a (bs.map .bool)) (hk : k (.d (.bool (bs.any id))) m) : CbP R K E XP ρ m (rAny K) [a] k :=
  cbP_sc (v := .bl (bs.any id)) rfl (fun s ra Q q => by
    obtain ⟨v, rfl, r1⟩ := relA1 ra
    obtain ⟨p, vs, rfl, h1, h2⟩ := rel_lst s r1 ha
    cases dqa_bools h2
    exact ⟨p, bs, rfl, sql h1, q⟩) hk
theorem cbP_sum {a : Rk} {bs : List Int} (ha : LR a (bs.map .int)) (hk : k (.d (.int bs.sum)) m) : CbP R K E XP ρ m (rSum K) [a] k :=
  cbP_sc (v := .int bs.sum) rfl (fun s ra Q q => by
    obtain ⟨v, rfl, r1⟩ := relA1 ra
    obtain ⟨p, vs, rfl, h1, h2⟩ := rel_lst s r1 ha
    cases dqa_intsV h2
    exact ⟨p, bs, rfl, sql h1, q⟩) hk
/-- sep.join(list of texts) -/
def rJoinK (K : PySem.W.Frag) : V → List V → Hp → VK → Prop := fun x xs H Q => ∃ a p, ∃ ys : List Str, x = .str a ∧ xs = [.ref p] ∧ (SqL K H p (ys.map V.str) ∨ SqT K H p (ys.map V.str)) ∧ (ys.map (·.length)).sum + ys.length * a.length ≤ 16777216 ∧ Q (.str (Txt.join a ys)) H
theorem peK_join {X : Cx} {to : TE} {o e : Expr} {apos pos : Pos} (h : X.K = K) (ho : PE X o to) (he : PE X e te) (hs : starEach [e] X.env = [(false, eval e X.env)] := by rfl) (hbase : attributeBase o "join" X.env (eval o X.env) = eval o X.env := by rfl) (hline : (apos.endLine == pos.line) = true := by rfl) :
    PE X (.Call (.Attribute o "join" apos) [e] [] pos) (tM1 (rJoinK K) to te) := by subst h; exact pe_join ho he hs hbase hline
theorem we_join {to : TE} (h : WE R K E XP ρ m to fun a m1 => ∃ z, a = .d (.str z) ∧ WE R K E XP ρ m1 te fun b m2 => ∃ ys, LR b (ys.map .str) ∧ (ys.map (·.length)).sum + ys.length * z.length ≤ 16777216 ∧ k (.d (.str (Txt.join z ys))) m2) : WE R K E XP ρ m (tM1 (rJoinK K) to te) k := by with_unfolding_all exact (fun D Q q =>
  h D _ fun v a m1 F1 H1 B1 ⟨z, e, k1⟩ D1 q1 r1 => by
    subst e
    cases dq_str r1
    refine ⟨⟨z, rfl⟩, k1 D1 _ fun w b m2 F2 H2 B2 ⟨ys, hl, hz, k2⟩ D2 q2 r2 => ?_⟩
    obtain ⟨p, vs, rfl, h1, h2⟩ := rel_lst D2.st.s r2 hl
    cases dqa_strsV h2
    exact ⟨z, p, ys, rfl, rfl, .inl (sql h1), hz, q _ _ m2 F2 H2 B2 k2 D2 (q1.trans q2) (.str _)⟩)
end
/-! ## a def's body -/
def isDo : Rk → Prop
  | .d _ => True
  | .o _ => True
  | _ => False
theorem run_P {K : PySem.W.Frag} {E : XK} {pre : List PyData → Prop} {post : List PyData → Rk → Prop} {vs : List V} {H : Hp} {Q : VK} {N : List Str} {ts : TS} (h : spP K pre post vs H Q E) (n : Nat) (hn : N.length - vs.length = n)
    (body : ∀ ds, pre ds → WS noM K E (fun _ _ => False) (ds.map Sl.d ++ List.replicate n Sl.u) () ts (fun _ _ => post ds (.d .none)) (fun r _ => post ds r ∧ isDo r) (fun _ _ => False) (fun _ _ => False)) :
    ts { nx := fun _ H' => Q .non H', rt := Q } (L2.start N vs) H := by
  obtain ⟨ds, B, hd, hB, hp, q⟩ := h
  have hl := dqa_len hd
  have D0 : DS noM K E (fun _ _ => False) (fun _ => False) H B (fun _ => False) H B (L2.start N vs) (ds.map Sl.d ++ List.replicate n Sl.u) () := by
    refine ⟨by unfold L2.start; simp [hl]; omega, .refl hB, fun _ => id, fun i t ht => ?_, fun i j p xs ys h1 => ?_, fun _ _ _ _ _ z => z.elim⟩
    · unfold L2.start
      by_cases hi : i < ds.length
      · rw [List.getElem?_append_left (by rw [List.length_map]; exact hi), List.getElem?_map, List.getElem?_eq_getElem hi] at ht
        cases ht
        obtain ⟨v, h1, h2⟩ := dqa_at hd (List.getElem?_eq_getElem hi)
        refine ⟨some v, ?_, v, rfl, h2⟩
        rw [List.getElem?_append_left (by rw [List.length_map]; omega), List.getElem?_map, h1]
        rfl
      · rw [List.getElem?_append_right (by rw [List.length_map]; omega), List.getElem?_replicate] at ht
        split at ht
        · next hc =>
          cases ht
          rw [List.length_map] at hc
          refine ⟨none, ?_, True.intro⟩
          rw [List.getElem?_append_right (by rw [List.length_map]; omega), List.getElem?_replicate, if_pos (by rw [List.length_map]; omega)]
        · cases ht
    · have := List.mem_of_getElem? h1
      rcases List.mem_append.mp this with z | z
      · obtain ⟨x, _, e⟩ := List.mem_map.mp z; cases e
      · have := (List.mem_replicate.mp z).2; cases this
  have fin : ∀ {v r F' H' B'}, (post ds r ∧ isDo r) → Stq (fun _ => False) H B F' H' B' → (noM.rel () F' H' B') → RelR K H F' H' B' v r → Q v H' := fun {v r F' H' B'} hr st hF rel =>
    q v r H' B' hr.1 (fun x o hx => st.k x o hx id) st.b st.s st.f (by
      cases r with
      | d x => exact rel
      | o xs => obtain ⟨p, us, e, g1, g2, _, g4, g5⟩ := rel; exact ⟨p, us, e, g1, g2, g4, g5⟩
      | l xs => exact hr.2.elim
      | v x => exact hr.2.elim
      | c x => exact hr.2.elim)
  have hb := body ds hp
  unfold WS at hb
  exact hb _ D0 (fun hk D' _ => fin ⟨hk, True.intro⟩ D'.st D'.r .non) (fun hk st hF rel => fin hk st hF rel) (fun z => z.elim) (fun z => z.elim)
/-! ## a def of data, whole -/
theorem cx_K {CX : CXT} {P : Program} {w : World} {K : PySem.W.Frag} {mg : Str → Option Value} {base : Heap} {N : List Str} {qual : Str} {scope : Scope} {f : Addr} {cd : Value} {A : Around} {outer : List Env} {s : Shared} {H : Hp} {E : XK} : (cxOf CX P w K mg base N qual scope f cd A outer s H E).K = K := rfl
theorem cx_Kn {CX : CXT} {P : Program} {w : World} {K : PySem.W.Frag} {mg : Str → Option Value} {base : Heap} {N : List Str} {qual : Str} {scope : Scope} {f : Addr} {cd : Value} {A : Around} {outer : List Env} {s : Shared} {H : Hp} {E : XK} : (cxOf CX P w K mg base N qual scope f cd A outer s H E).nox.K = K := rfl
theorem okP {P : Program} {w : World} {K : PySem.W.Frag} {mg : Str → Option Value} {base : Heap} {x qual : Str} {st : Stmt} {f : Addr} {fd : FuncData} {N ps : List Str} {k : Nat} {pre : List PyData → Prop} {post : List PyData → Rk → Prop}
    (F : Fun K x qual st f fd) (S : FnScope N ps (defScope st)) (n : Nat) (hn : N.length = ps.length + n) (len : ∀ ds, pre ds → ds.length = ps.length)
    (hb : ∀ (cdv : Value) (A : Around) (outer : List Env) (s : Shared) (H : Hp) (E : XK), Room k (A.deeper (envOfC qual (defScope st) s.heap.objs.size f cdv)) →
      ∃ t, PSs (cxOf CX0 P w K mg base N qual (defScope st) f cdv A outer s H E).nox (defBody st) t ∧
        ∀ ds, pre ds → WS noM K E (fun _ _ => False) (ds.map Sl.d ++ List.replicate n Sl.u) () t (fun _ _ => post ds (.d .none)) (fun r _ => post ds r ∧ isDo r) (fun _ _ => False) (fun _ _ => False)) : FnOk P w K mg base CX0 (k + 1) f fd ps (spP K pre post) :=
  F.ok S (fun vs H Q E ⟨ds, B, hd, _, hp, _⟩ => (dqa_len hd).trans (len ds hp)) fun cdv A outer s H vs Q E hr h => by
    obtain ⟨t, h1, h2⟩ := hb cdv A outer s H E hr
    refine ⟨t, h1, run_P h n ?_ fun ds hp => h2 ds hp⟩
    obtain ⟨ds, B, hd, _, hp, _⟩ := h
    rw [dqa_len hd, len ds hp, hn]
    omega
/-- one, two or three things of data -/
def P1 (p : PyData → Prop) : List PyData → Prop := fun ds => ∃ x, ds = [x] ∧ p x
def P2 (p : PyData → PyData → Prop) : List PyData → Prop := fun ds => ∃ x y, ds = [x, y] ∧ p x y
def P3 (p : PyData → PyData → PyData → Prop) : List PyData → Prop := fun ds => ∃ x y z, ds = [x, y, z] ∧ p x y z
theorem P1.len {p : PyData → Prop} : ∀ ds, P1 p ds → ds.length = 1 := fun _ ⟨_, e, _⟩ => by rw [e]; rfl
theorem P2.len {p : PyData → PyData → Prop} : ∀ ds, P2 p ds → ds.length = 2 := fun _ ⟨_, _, e, _⟩ => by rw [e]; rfl
theorem P3.len {p : PyData → PyData → PyData → Prop} : ∀ ds, P3 p ds → ds.length = 3 := fun _ ⟨_, _, _, e, _⟩ => by rw [e]; rfl
/-- the answer is a function of the arguments -/
def R1 (f : PyData → PyData) : List PyData → Rk → Prop := fun ds r => ∀ x, ds = [x] → r = .d (f x)
def R2' (f : PyData → PyData → PyData) : List PyData → Rk → Prop := fun ds r => ∀ x y, ds = [x, y] → r = .d (f x y)
def R3 (f : PyData → PyData → PyData → PyData) : List PyData → Rk → Prop := fun ds r => ∀ x y z, ds = [x, y, z] → r = .d (f x y z)
section
variable {M : Type} {R : MR M} {K : PySem.W.Frag} {E : XK} {XP : Addr → M → Prop} {ρ : List Sl} {m : M}
theorem r1d {f : PyData → PyData} {x y : PyData} (h : y = f x) : R1 f [x] (.d y) ∧ isDo (.d y) := ⟨fun z e => by cases e; rw [h], True.intro⟩
theorem r2d {f : PyData → PyData → PyData} {x y z : PyData} (h : z = f x y) : R2' f [x, y] (.d z) ∧ isDo (.d z) := ⟨fun _ _ e => by cases e; rw [h], True.intro⟩
theorem r3d {f : PyData → PyData → PyData → PyData} {x y z u : PyData} (h : u = f x y z) : R3 f [x, y, z] (.d u) ∧ isDo (.d u) := ⟨fun _ _ _ e => by cases e; rw [h], True.intro⟩
theorem ws_norm {ρ' : List Sl} {i : Nat} {s : Sl} {t : TS} {nx : List Sl → M → Prop} {rt : Rk → M → Prop} {bk ct : List Sl → M → Prop} (e : ρ.set i s = ρ') (h : WS R K E XP ρ' m t nx rt bk ct) : WS R K E XP (ρ.set i s) m t nx rt bk ct := by rw [e]; exact h
/-- the call of a def of data whose answer is a function -/
theorem call1 {f : PyData → PyData} {x : PyData} {k : Rk → M → Prop} (h : k (.d (f x)) m) : ∀ r, R1 f ([x] ++ ([] : List V).map sc) r → k r m := fun r hr => by rw [hr x rfl]; exact h
theorem call2 {f : PyData → PyData → PyData} {x y : PyData} {k : Rk → M → Prop} (h : k (.d (f x y)) m) : ∀ r, R2' f ([x, y] ++ ([] : List V).map sc) r → k r m := fun r hr => by rw [hr x y rfl]; exact h
theorem call3 {f : PyData → PyData → PyData → PyData} {x y z : PyData} {k : Rk → M → Prop} (h : k (.d (f x y z)) m) : ∀ r, R3 f ([x, y, z] ++ ([] : List V).map sc) r → k r m := fun r hr => by rw [hr x y z rfl]; exact h
theorem ifB {b : Bool} {A C : Prop} (h : b = true → A) (g : b = false → C) : (b = true → A) ∧ (b = false → C) := ⟨h, g⟩
end
/-! ## more readings -/
theorem hu65 {k : Nat} {A : Around} (h : Room k A) : A.units + 65 < cLine := by have := h.un; omega
def rGtS : R2 := fun x y H Q => ∃ i j, x = .str i ∧ y = .str j ∧ Q (.bl (decide (j.cps.toList < i.cps.toList))) H
theorem op_gtS {X : Cx} : OpR X (compareOp .Gt) rGtS := op_gt_str
def rLeS : R2 := fun x y H Q => ∃ i j, x = .str i ∧ y = .str j ∧ Q (.bl !decide (j.cps.toList < i.cps.toList)) H
theorem op_leS {X : Cx} : OpR X (compareOp .LtE) rLeS := op_le_str
def rGeS : R2 := fun x y H Q => ∃ i j, x = .str i ∧ y = .str j ∧ Q (.bl !decide (i.cps.toList < j.cps.toList)) H
theorem op_geS {X : Cx} : OpR X (compareOp .GtE) rGeS := op_ge_str
def rNotInS1 : R2 := fun x y H Q => ∃ c z, x = .str ⟨#[c]⟩ ∧ y = .str z ∧ Q (.bl !decide (c ∈ z.cps.toList)) H
theorem op_notInS1 {X : Cx} : OpR X (compareOp .NotIn) rNotInS1 := op_notIn_sign
def rOrd : List V → Hp → VK → Prop := fun xs H Q => ∃ x, xs = [.str x] ∧ x.length = 1 ∧ Q (.int (x.cps.getD 0 0 : Nat)) H
theorem call_ordN {X : Cx} : CallR X (.builtin "ord") rOrd := call_ord
def rAbs : List V → Hp → VK → Prop := fun xs H Q => ∃ i, xs = [.int i] ∧ Q (.int (if i < 0 then -i else i)) H
theorem call_absN {X : Cx} : CallR X (.builtin "abs") rAbs := call_abs
def tJ (ts : List TE) : TE := fun σ H Q => tJs ts Str.empty σ H fun out H1 => Q (.str out) H1
theorem pe_joinedN {X : Cx} {v1 v2 : Expr} {rest : List Expr} {ts : List TE} {pos : Pos} (h : PJ X (v1 :: v2 :: rest) ts) : PE X (.JoinedStr (v1 :: v2 :: rest) pos) (tJ ts) := pe_joined h
section
variable {M : Type} {R : MR M} {K : PySem.W.Frag} {E : XK} {XP : Addr → M → Prop} {ρ : List Sl} {m : M} {k : Rk → M → Prop} {ta tb tc te : TE} {ts : List TE}
theorem opP_gtS {i j : Str} (hk : k (.d (.bool (decide (j.cps.toList < i.cps.toList)))) m) : OpP R K E XP ρ m rGtS (.d (.str i)) (.d (.str j)) k :=
  opP_sc (v := .bl _) rfl (fun _ ra rb Q q => ⟨i, j, dq_str ra, dq_str rb, q⟩) hk
theorem opP_leS {i j : Str} (hk : k (.d (.bool !decide (j.cps.toList < i.cps.toList))) m) : OpP R K E XP ρ m rLeS (.d (.str i)) (.d (.str j)) k :=
  opP_sc (v := .bl _) rfl (fun _ ra rb Q q => ⟨i, j, dq_str ra, dq_str rb, q⟩) hk
theorem opP_geS {i j : Str} (hk : k (.d (.bool !decide (i.cps.toList < j.cps.toList))) m) : OpP R K E XP ρ m rGeS (.d (.str i)) (.d (.str j)) k :=
  opP_sc (v := .bl _) rfl (fun _ ra rb Q q => ⟨i, j, dq_str ra, dq_str rb, q⟩) hk
theorem opP_notInS1 {c : Nat} {z : Str} (hk : k (.d (.bool !decide (c ∈ z.cps.toList))) m) : OpP R K E XP ρ m rNotInS1 (.d (.str ⟨#[c]⟩)) (.d (.str z)) k :=
  opP_sc (v := .bl _) rfl (fun _ ra rb Q q => ⟨c, z, dq_str ra, dq_str rb, q⟩) hk
theorem cbP_ord {c : Nat} (hk : k (.d (.int (c : Int))) m) : CbP R K E XP ρ m rOrd [.d (.str ⟨#[c]⟩)] k :=
  cbP_sc (v := .int (c : Int)) rfl (fun s ra Q q => by
    obtain ⟨v, rfl, r1⟩ := relA1 ra
    cases dq_str r1
    exact ⟨⟨#[c]⟩, rfl, rfl, q⟩) hk
theorem cbP_abs {i : Int} (hk : k (.d (.int (if i < 0 then -i else i))) m) : CbP R K E XP ρ m rAbs [.d (.int i)] k :=
  cbP_sc (v := .int _) rfl (fun s ra Q q => by
    obtain ⟨v, rfl, r1⟩ := relA1 ra
    exact ⟨i, by rw [dq_int r1], q⟩) hk
theorem we_neg (h : WE R K E XP ρ m te fun r m1 => ∃ i, r = .d (.int i) ∧ k (.d (.int (-i))) m1) : WE R K E XP ρ m (tUn (rU fun i => .int (-i)) te) k := by with_unfolding_all exact (fun D Q q =>
  h D _ fun v r m1 F1 H1 B1 ⟨i, e, k1⟩ D1 q1 r1 => by
    subst e
    exact ⟨i, dq_int r1, q _ _ m1 F1 H1 B1 k1 D1 q1 (.int _)⟩)
@[irreducible] def WJ (R : MR M) (K : PySem.W.Frag) (E : XK) (XP : Addr → M → Prop) (ρ : List Sl) (m : M) (ts : List TE) (o : Str) (k : Str → M → Prop) : Prop := ∀ {F0 H0 B0 F H B σ}, DS R K E XP F0 H0 B0 F H B σ ρ m → ∀ Q : Str → Hp → Prop, (∀ z m' F' H' B', k z m' → DS R K E XP F0 H0 B0 F' H' B' σ ρ m' → Stq F H B F' H' B' → Q z H') → tJs ts o σ H Q
theorem wj_nil {o : Str} {k : Str → M → Prop} (hk : k o m) : WJ R K E XP ρ m [] o k := by with_unfolding_all exact (fun D Q q => by
  simp only [L2.tJs]
  exact q _ m _ _ _ hk D (.refl D.st.s))
theorem wj_cons {o : Str} {k : Str → M → Prop} (h : WE R K E XP ρ m te fun r m1 => ∃ y, r = .d (.str y) ∧ (o ++ y).length ≤ sizeLine ∧ WJ R K E XP ρ m1 ts (o ++ y) k) : WJ R K E XP ρ m (te :: ts) o k := by with_unfolding_all exact (fun D Q q => by
  simp only [L2.tJs]
  refine h D _ fun v r m1 F1 H1 B1 ⟨y, e, hl, k1⟩ D1 q1 r1 => ?_
  subst e
  exact ⟨y, dq_str r1, hl, k1 D1 Q fun z m' F' H' B' k3 D3 q3 => q z m' F' H' B' k3 D3 (q1.trans q3)⟩)
theorem we_joined (h : WJ R K E XP ρ m ts Str.empty fun z m1 => k (.d (.str z)) m1) : WE R K E XP ρ m (tJ ts) k := by with_unfolding_all exact (fun D Q q =>
  h D _ fun z m' F' H' B' k3 D3 q3 => q _ _ m' F' H' B' k3 D3 q3 (.str _))
theorem we_fmtI (h : WE R K E XP ρ m te fun r m1 => ∃ i, r = .d (.int i) ∧ i.natAbs.log2 < 1920 ∧ k (.d (.str (Str.ofString (toString i)))) m1) : WE R K E XP ρ m (tFmt te) k := by with_unfolding_all exact (fun D Q q =>
  h D _ fun v r m1 F1 H1 B1 ⟨i, e, hl, k1⟩ D1 q1 r1 => by
    subst e
    exact .inr ⟨i, dq_int r1, hl, q _ _ m1 F1 H1 B1 k1 D1 q1 (.str _)⟩)
theorem we_fmtS (h : WE R K E XP ρ m te fun r m1 => ∃ y, r = .d (.str y) ∧ y.length ≤ sizeLine ∧ k (.d (.str y)) m1) : WE R K E XP ρ m (tFmt te) k := by with_unfolding_all exact (fun D Q q =>
  h D _ fun v r m1 F1 H1 B1 ⟨y, e, hl, k1⟩ D1 q1 r1 => by
    subst e
    exact .inl ⟨y, dq_str r1, hl, q _ _ m1 F1 H1 B1 k1 D1 q1 (.str _)⟩)
end
section
variable {M : Type} {R : MR M} {K : PySem.W.Frag} {E : XK} {XP : Addr → M → Prop} {ρ : List Sl} {m : M}
theorem we_ty {t : String} {k : Rk → M → Prop} (hk : k (.v (.ty t)) m) : WE R K E XP ρ m (tC (.ty t)) k := we_cV hk
theorem ws_eq {ρ' : List Sl} {t : TS} {nx : List Sl → M → Prop} {rt : Rk → M → Prop} {bk ct : List Sl → M → Prop} (e : ρ = ρ') (h : WS R K E XP ρ' m t nx rt bk ct) : WS R K E XP ρ m t nx rt bk ct := by rw [e]; exact h
theorem wg_eq {ρ' : List Sl} {g : TG} {d : PyData} {k : List Sl → Prop} (e : ρ = ρ') (h : WG R K E XP ρ' m g d k) : WG R K E XP ρ m g d k := by rw [e]; exact h
theorem wt_eq {ρ' : List Sl} {t : TT} {k : Bool → M → Prop} (e : ρ = ρ') (h : WT R K E XP ρ' m t k) : WT R K E XP ρ m t k := by rw [e]; exact h
end
/-! isinstance by kinds -/
def isBoolD : PyData → Bool
  | .bool _ => true
  | _ => false
theorem isK_Bool (d : PyData) : isKD (kindD d) "bool" = isBoolD d := by cases d <;> first | rfl | (unfold kindD isKD isBoolD; decide)
def isIntD : PyData → Bool
  | .int _ => true
  | .bool _ => true
  | _ => false
theorem isK_Int (d : PyData) : isKD (kindD d) "int" = isIntD d := by cases d <;> first | rfl | (unfold kindD isKD isIntD; decide)
def isStrD : PyData → Bool
  | .str _ => true
  | _ => false
theorem isK_Str (d : PyData) : isKD (kindD d) "str" = isStrD d := by cases d <;> first | rfl | (unfold kindD isKD isStrD; decide)
def isTupD : PyData → Bool
  | .tuple _ => true
  | _ => false
theorem isK_Tup (d : PyData) : isKD (kindD d) "tuple" = isTupD d := by cases d <;> first | rfl | (unfold kindD isKD isTupD; decide)
def isLstD : PyData → Bool
  | .list _ => true
  | _ => false
theorem isK_Lst (d : PyData) : isKD (kindD d) "list" = isLstD d := by cases d <;> first | rfl | (unfold kindD isKD isLstD; decide)
section
variable {M : Type} {R : MR M} {K : PySem.W.Frag} {E : XK} {XP : Addr → M → Prop} {ρ : List Sl} {m : M} {k : Rk → M → Prop}
theorem cbP_isB {a : Rk} {d : PyData} (ha : asD a = some d) (hk : k (.d (.bool (isBoolD d))) m) : CbP R K E XP ρ m (rIsi K) [a, .v (.ty "bool")] k := cbP_isi ha (by decide) (by rw [isK_Bool]; exact hk)
theorem cbP_isI {a : Rk} {d : PyData} (ha : asD a = some d) (hk : k (.d (.bool (isIntD d))) m) : CbP R K E XP ρ m (rIsi K) [a, .v (.ty "int")] k := cbP_isi ha (by decide) (by rw [isK_Int]; exact hk)
theorem cbP_isS {a : Rk} {d : PyData} (ha : asD a = some d) (hk : k (.d (.bool (isStrD d))) m) : CbP R K E XP ρ m (rIsi K) [a, .v (.ty "str")] k := cbP_isi ha (by decide) (by rw [isK_Str]; exact hk)
theorem cbP_isT {a : Rk} {d : PyData} (ha : asD a = some d) (hk : k (.d (.bool (isTupD d))) m) : CbP R K E XP ρ m (rIsi K) [a, .v (.ty "tuple")] k := cbP_isi ha (by decide) (by rw [isK_Tup]; exact hk)
theorem cbP_isL {a : Rk} {d : PyData} (ha : asD a = some d) (hk : k (.d (.bool (isLstD d))) m) : CbP R K E XP ρ m (rIsi K) [a, .v (.ty "list")] k := cbP_isi ha (by decide) (by rw [isK_Lst]; exact hk)
end
def truR (r : Rk) : Option Bool := (asD r).bind truD
section
variable {M : Type} {R : MR M} {K : PySem.W.Frag} {E : XK} {XP : Addr → M → Prop} {ρ : List Sl} {m : M}
theorem wt_truR {te : TE} {k : Bool → M → Prop} (h : WE R K E XP ρ m te fun r m1 => ∃ b, truR r = some b ∧ k b m1) : WT R K E XP ρ m (tTru K te) k := wt_tru (by
  unfold WE at h ⊢
  intro F0 H0 B0 F H B σ D Q q
  exact h D Q fun v r m' F' H' B' ⟨b, e, hk⟩ => q v r m' F' H' B' (by
    unfold truR at e
    cases ha : asD r with
    | none => rw [ha] at e; cases e
    | some d => rw [ha] at e; exact ⟨d, b, ha, e, hk⟩))
end
/-! ## comprehensions by a function -/
theorem ifp {p A B : Prop} [Decidable p] (h : p → A) (g : ¬ p → B) : (decide p = true → A) ∧ (decide p = false → B) := ⟨fun e => h (of_decide_eq_true e), fun e => g (of_decide_eq_false e)⟩
theorem ifq {p A B : Prop} [Decidable p] (h : ¬ p → A) (g : p → B) : (decide p = false → A) ∧ (decide p = true → B) := ⟨fun e => h (of_decide_eq_false e), fun e => g (of_decide_eq_true e)⟩
theorem ifnp {p A B : Prop} [Decidable p] (h : ¬ p → A) (g : p → B) : ((!decide p) = true → A) ∧ ((!decide p) = false → B) := ⟨fun e => h (by simpa using e), fun e => g (by simpa using e)⟩
theorem ifnq {p A B : Prop} [Decidable p] (h : p → A) (g : ¬ p → B) : ((!decide p) = false → A) ∧ ((!decide p) = true → B) := ⟨fun e => h (by simpa using e), fun e => g (by simpa using e)⟩
theorem ifb {b : Bool} {A B : Prop} (h : b = true → A) (g : b = false → B) : (b = true → A) ∧ (b = false → B) := ⟨h, g⟩
theorem ifbq {b : Bool} {A B : Prop} (h : b = false → A) (g : b = true → B) : (b = false → A) ∧ (b = true → B) := ⟨h, g⟩
theorem ifnb {b : Bool} {A B : Prop} (h : b = false → A) (g : b = true → B) : ((!b) = true → A) ∧ ((!b) = false → B) := ⟨fun e => h (by simpa using e), fun e => g (by simpa using e)⟩
theorem ifnbq {b : Bool} {A B : Prop} (h : b = true → A) (g : b = false → B) : ((!b) = false → A) ∧ ((!b) = true → B) := ⟨fun e => h (by simpa using e), fun e => g (by simpa using e)⟩
section
variable {M : Type} {R : MR M} {K : PySem.W.Frag} {E : XK} {XP : Addr → M → Prop} {ρ : List Sl} {m : M} {k : Rk → M → Prop} {ta tb tc te : TE} {tr : TA}
theorem wt_yes {k : Bool → M → Prop} (hk : k true m) : WT R K E XP ρ m tYes k := by with_unfolding_all exact (fun D Q q => q true m _ _ _ hk D (.refl D.st.s))
theorem take_succ_app {α : Type} {xs : List α} {i : Nat} {x : α} (h : xs[i]? = some x) : xs.take (i + 1) = xs.take i ++ [x] := by
  rw [List.take_succ, h]; rfl
theorem WI.mono {wi : TI} {k k' : List PyData → M → Prop} (h : WI R K E XP ρ m wi k) (g : ∀ xs m, k xs m → k' xs m) : WI R K E XP ρ m wi k' := by with_unfolding_all exact (fun D Q q => h D Q fun J xs m' F' H' B' hk => q J xs m' F' H' B' (g xs m' hk))
theorem WT.mono {t : TT} {k k' : Bool → M → Prop} (h : WT R K E XP ρ m t k) (g : ∀ b m, k b m → k' b m) : WT R K E XP ρ m t k' := by with_unfolding_all exact (fun D Q q => h D Q fun b m' F' H' B' hk => q b m' F' H' B' (g b m' hk))
theorem WA.mono {t : TA} {k k' : List Rk → M → Prop} (h : WA R K E XP ρ m t k) (g : ∀ b m, k b m → k' b m) : WA R K E XP ρ m t k' := by with_unfolding_all exact (fun D Q q => h D Q fun vs b m' F' H' B' hk => q vs b m' F' H' B' (g b m' hk))
theorem WE.mono {t : TE} {k k' : Rk → M → Prop} (h : WE R K E XP ρ m t k) (g : ∀ b m, k b m → k' b m) : WE R K E XP ρ m t k' := by with_unfolding_all exact (fun D Q q => h D Q fun vs b m' F' H' B' hk => q vs b m' F' H' B' (g b m' hk))
theorem WG.mono {g : TG} {d : PyData} {k k' : List Sl → Prop} (h : WG R K E XP ρ m g d k) (i : ∀ r, k r → k' r) : WG R K E XP ρ m g d k' := by with_unfolding_all exact (fun D hd Q q => h D hd Q fun σ' ρ' hk => q σ' ρ' (i ρ' hk))
end
section
variable {M : Type} {R : MR M} {K : PySem.W.Frag} {E : XK} {XP : Addr → M → Prop} {ρ : List Sl} {m : M} {k : Rk → M → Prop} {ta tb tc te : TE} {tr : TA}
/-- [f(x) for x in xs if t(x)] -/
theorem we_lcF {wi : TI} {g : TG} {tt : TT} {vs : List Nat} {ρ0 : List Sl} (hsl : Wipes g vs) (e0 : wipeS ρ vs = ρ0) (h : WI R K E XP ρ m wi fun xs m1 => ∃ (f : PyData → PyData) (t : PyData → Bool), xs.length ≤ 90000 ∧
    (∀ x ∈ xs, WG R K E XP ρ0 m1 g x fun ρ1 => WT R K E XP ρ1 m1 tt fun b m2 => m2 = m1 ∧ b = t x ∧
      (b = true → WA R K E XP ρ1 m1 (tCons te tNil) fun rs m3 => m3 = m1 ∧ DLo rs = some [f x])) ∧
    k (.o ((xs.filter t).map f)) m1) : WE R K E XP ρ m (tLc wi g tt te vs) k :=
  we_lc hsl <| WI.mono h fun xs m1 ⟨f, t, hl, step, hk⟩ => ⟨fun i ys => ys = ((xs.take i).filter t).map f, rfl, fun i x ys hx (hI : ys = ((xs.take i).filter t).map f) => by
    have hm := List.mem_of_getElem? hx
    have hi := (List.getElem?_eq_some_iff.mp hx).1
    have et := take_succ_app hx
    rw [e0]
    refine WG.mono (step x hm) fun ρ1 hk2 => WT.mono hk2 fun b m2 ⟨z1, z2, z3⟩ => ⟨z1, fun hb => WA.mono (z3 hb) fun rs m3 ⟨y1, y2⟩ => ⟨y1, f x, y2, ?_, ?_⟩, fun hb => ?_⟩
    · rw [hI, List.length_map]
      have := List.length_filter_le t (xs.take i)
      rw [List.length_take] at this
      omega
    · show ys ++ [f x] = ((xs.take (i + 1)).filter t).map f
      rw [et, List.filter_append, List.map_append, hI, List.filter_cons, ← z2, hb]; rfl
    · show ys = ((xs.take (i + 1)).filter t).map f
      rw [et, List.filter_append, List.map_append, hI, List.filter_cons, ← z2, hb]; simp, fun ys (hI : ys = ((xs.take xs.length).filter t).map f) => by
    have hI' : ys = ((xs.take xs.length).filter t).map f := hI
    rw [List.take_length] at hI'
    rw [hI']; exact hk⟩
theorem we_lcM {wi : TI} {g : TG} {vs : List Nat} {ρ0 : List Sl} (hsl : Wipes g vs) (e0 : wipeS ρ vs = ρ0) (h : WI R K E XP ρ m wi fun xs m1 => ∃ (f : PyData → PyData), xs.length ≤ 90000 ∧
    (∀ x ∈ xs, WG R K E XP ρ0 m1 g x fun ρ1 => WA R K E XP ρ1 m1 (tCons te tNil) fun rs m3 => m3 = m1 ∧ DLo rs = some [f x]) ∧
    k (.o (xs.map f)) m1) : WE R K E XP ρ m (tLc wi g tYes te vs) k :=
  we_lcF hsl e0 <| WI.mono h fun xs m1 ⟨f, hl, step, hk⟩ => ⟨f, fun _ => true, hl, fun x hx => WG.mono (step x hx) fun ρ1 hk2 => wt_yes ⟨rfl, rfl, fun _ => hk2⟩, by
    have : xs.filter (fun _ => true) = xs := List.filter_eq_self.mpr fun _ _ => rfl
    rw [this]; exact hk⟩
end
/-! ## a dict of the module; the call of what a local name holds -/
def rKd (K : PySem.W.Frag) (d : Addr) : R2 := fun x y H Q => ∃ (z : Str) (u0 : Value) (v0 : V), x = V.ref d ∧ y = V.str z ∧ PySem.W.nsIn K d z = some (some u0) ∧ L2.RelV v0 u0 ∧ Q v0 H
theorem ix_kd {X : Cx} {d : Addr} {es : Array DictEntry} {n : Nat} (D : KDict X.K X.w d es n) : IxR X (rKd X.K d) := fun value slice pins s σ H x y v u Q I rx ry h hs => by
  have h0 := h
  obtain ⟨z, u0, v0, rfl, rfl, e, r, q⟩ := h
  have ho := I.kIn _ _ D.at_
  cases (show v = .ref d from rx)
  exact tail_any ⟨_, ho, rfl⟩ F.slot_dict_getitem.lookup (L2.op_item_kd D pins s σ H _ _ _ _ Q I rx ry h0) hs
theorem ixK_kd {K : PySem.W.Frag} {X : Cx} {d : Addr} {es : Array DictEntry} {n : Nat} (h : X.K = K) (D : KDict K X.w d es n) : IxR X (rKd K d) := by subst h; exact ix_kd D
section
variable {M : Type} {R : MR M} {K : PySem.W.Frag} {E : XK} {XP : Addr → M → Prop} {ρ : List Sl} {m : M} {k : Rk → M → Prop} {ta tb tc te : TE} {tr : TA}
theorem opP_kd {d f : Addr} {z : Str} (h : PySem.W.nsIn K d z = some (some (.ref f))) (hk : k (.v (.ref f)) m) : OpP R K E XP ρ m (rKd K d) (.v (.ref d)) (.d (.str z)) k := by
  unfold OpP
  intro F0 H0 B0 F H B σ Hs x y D ra rb Q q
  cases (show x = .ref d from ra)
  cases dq_str rb
  exact ⟨z, _, .ref f, rfl, rfl, h, rfl, q _ _ m _ _ _ hk D (.refl D.st.s) rfl⟩
theorem we_callL {pre : List PyData → Prop} {post : List PyData → Rk → Prop} {i : Nat} {f : Addr} {E' : XK} (hi : ρ[i]? = some (.v (.ref f))) (h : WA R K E XP ρ m tr fun rs m1 => ∃ ds, DLo rs = some ds ∧ pre ds ∧ ∀ r, post ds r → k r m1) : WE R K E XP ρ m (tCallL i f (spP K pre post) [] E' tr) k := by
  have h2 : WE R K E XP ρ m (tCall (spP K pre post) [] E' tr) k := we_callP (dvs := []) (WA.mono h fun rs m1 ⟨ds, e, h1, h2⟩ => ⟨ds, e, by simpa using h1, by simpa using h2⟩)
  unfold WE at h2 ⊢
  intro F0 H0 B0 F H B σ D Q q
  obtain ⟨w, h1, h3⟩ := D.s i _ hi
  cases (show w = some (.ref f) from h3)
  exact ⟨h1, h2 D Q q⟩
end
/-- as okP, the derivation chosen by the arguments -/
theorem okPd {P : Program} {w : World} {K : PySem.W.Frag} {mg : Str → Option Value} {base : Heap} {x qual : Str} {st : Stmt} {f : Addr} {fd : FuncData} {N ps : List Str} {k : Nat} {pre : List PyData → Prop} {post : List PyData → Rk → Prop}
    (F : Fun K x qual st f fd) (S : FnScope N ps (defScope st)) (n : Nat) (hn : N.length = ps.length + n) (len : ∀ ds, pre ds → ds.length = ps.length)
    (hb : ∀ (cdv : Value) (A : Around) (outer : List Env) (s : Shared) (H : Hp) (E : XK), Room k (A.deeper (envOfC qual (defScope st) s.heap.objs.size f cdv)) →
      ∀ ds, pre ds → ∃ t, PSs (cxOf CX0 P w K mg base N qual (defScope st) f cdv A outer s H E).nox (defBody st) t ∧
        WS noM K E (fun _ _ => False) (ds.map Sl.d ++ List.replicate n Sl.u) () t (fun _ _ => post ds (.d .none)) (fun r _ => post ds r ∧ isDo r) (fun _ _ => False) (fun _ _ => False)) : FnOk P w K mg base CX0 (k + 1) f fd ps (spP K pre post) :=
  F.ok S (fun vs H Q E ⟨ds, B, hd, _, hp, _⟩ => (dqa_len hd).trans (len ds hp)) fun cdv A outer s H vs Q E hr h => by
    obtain ⟨ds, B, hd, hB, hp, q⟩ := h
    obtain ⟨t, h1, h2⟩ := hb cdv A outer s H E hr ds hp
    refine ⟨t, h1, run_P (pre := fun es => es = ds) (post := post) ⟨ds, B, hd, hB, rfl, q⟩ n ?_ fun es he => by subst he; exact h2⟩
    rw [dqa_len hd, len ds hp, hn]
    omega
def rInT (K : PySem.W.Frag) : R2 := fun x y H Q => ∃ d ds, Dp K H x d ∧ Dp K H y (.tuple ds) ∧ SeqAt.shaped d = true ∧ SeqAt.shaped (.tuple ds) = true ∧ Q (.bl (ds.any fun z => PyData.eqv z d)) H
def rNotInT (K : PySem.W.Frag) : R2 := fun x y H Q => ∃ d ds, Dp K H x d ∧ Dp K H y (.tuple ds) ∧ SeqAt.shaped d = true ∧ SeqAt.shaped (.tuple ds) = true ∧ Q (.bl (!ds.any fun z => PyData.eqv z d)) H
theorem sh_parts {ds : List PyData} (h : SeqAt.shaped (.tuple ds) = true) : PyData.canLayAll0 ds = true := by
  have : (PyData.tuple ds).canLay0 = true := SeqAt.canLay_of_shaped h
  rwa [PyData.canLay0] at this
theorem sh_depth {d : PyData} (h : SeqAt.shaped d = true) : d.depth ≤ 64 := by
  unfold SeqAt.shaped at h
  rw [Bool.and_eq_true] at h
  exact of_decide_eq_true h.2
theorem opK_inT {K : PySem.W.Frag} {X : Cx} (h : X.K = K) (hu : X.A.units + 65 < cLine) : OpR X (compareOp .In) (rInT K) := by
  subst h
  intro pins s σ H x y v u Q I rx ry ⟨d, ds, hd, he, sd, se, q⟩
  obtain ⟨as, r1⟩ := Dp.reads I d x v hd rx
  obtain ⟨bs, r2⟩ := Dp.reads I (.tuple ds) y u he ry
  have := sh_depth sd
  exact SeqAt.in_tuple_reads r2 r1 (sh_parts se) (SeqAt.canLay_of_shaped sd) (by omega) ⟨.bl _, _, I, rfl, q⟩
theorem opK_notInT {K : PySem.W.Frag} {X : Cx} (h : X.K = K) (hu : X.A.units + 65 < cLine) : OpR X (compareOp .NotIn) (rNotInT K) := by
  subst h
  intro pins s σ H x y v u Q I rx ry ⟨d, ds, hd, he, sd, se, q⟩
  obtain ⟨as, r1⟩ := Dp.reads I d x v hd rx
  obtain ⟨bs, r2⟩ := Dp.reads I (.tuple ds) y u he ry
  have := sh_depth sd
  exact SeqAt.notIn_tuple_reads r2 r1 (sh_parts se) (SeqAt.canLay_of_shaped sd) (by omega) ⟨.bl _, _, I, rfl, q⟩
section
variable {M : Type} {R : MR M} {K : PySem.W.Frag} {E : XK} {XP : Addr → M → Prop} {ρ : List Sl} {m : M} {k : Rk → M → Prop} {ta tb tc te : TE} {tr : TA}
theorem opP_inT {a b : Rk} {d : PyData} {ds : List PyData} (ha : asD a = some d) (hb : asD b = some (.tuple ds)) (h1 : SeqAt.shaped d = true) (h2 : SeqAt.shaped (.tuple ds) = true) (hk : k (.d (.bool (ds.any fun z => PyData.eqv z d))) m) : OpP R K E XP ρ m (rInT K) a b k :=
  opP_sc (v := .bl _) rfl (fun s ra rb Q q => ⟨d, ds, rel_asD s ra ha, rel_asD s rb hb, h1, h2, q⟩) hk
theorem opP_notInT {a b : Rk} {d : PyData} {ds : List PyData} (ha : asD a = some d) (hb : asD b = some (.tuple ds)) (h1 : SeqAt.shaped d = true) (h2 : SeqAt.shaped (.tuple ds) = true) (hk : k (.d (.bool (!ds.any fun z => PyData.eqv z d))) m) : OpP R K E XP ρ m (rNotInT K) a b k :=
  opP_sc (v := .bl _) rfl (fun s ra rb Q q => ⟨d, ds, rel_asD s ra ha, rel_asD s rb hb, h1, h2, q⟩) hk
end
/-- data whose texts and tuples are not too long, of at most this depth -/
def okx : Nat → PyData → Bool
  | _, .none => true
  | _, .bool _ => true
  | _, .int _ => true
  | _, .str z => PyData.strOk z && decide (z.length ≤ 100000)
  | n + 1, .list xs => decide (xs.length ≤ 90000) && xs.all (okx n)
  | n + 1, .tuple xs => decide (xs.length ≤ 90000) && xs.all (okx n)
  | _, _ => false
theorem okx_flat : ∀ {n : Nat} {d : PyData}, okx n d = true → Flat n d
  | n, .none, _ => flat_non n
  | n, .bool b, _ => flat_bl n b
  | n, .int i, _ => flat_int n i
  | n, .str z, h => flat_str n z (by unfold okx at h; rw [Bool.and_eq_true] at h; exact h.1)
  | n + 1, .list xs, h => by
    unfold okx at h
    rw [Bool.and_eq_true, List.all_eq_true] at h
    exact flat_list fun d hd => okx_flat (h.2 d hd)
  | n + 1, .tuple xs, h => by
    unfold okx at h
    rw [Bool.and_eq_true, List.all_eq_true] at h
    exact flat_tup fun d hd => okx_flat (h.2 d hd)
  | 0, .list _, h => by unfold okx at h; cases h
  | 0, .tuple _, h => by unfold okx at h; cases h
  | 0, .dict _, h => by unfold okx at h; cases h
  | _ + 1, .dict _, h => by unfold okx at h; cases h
theorem okx_sh {n : Nat} {d : PyData} (h : okx n d = true) (hn : n ≤ 64 := by decide) : SeqAt.shaped d = true := (okx_flat h).sh hn
theorem okx_mono : ∀ {n m : Nat} {d : PyData}, n ≤ m → okx n d = true → okx m d = true
  | _, m, .none, _, _ => by cases m <;> rfl
  | _, m, .bool _, _, _ => by cases m <;> rfl
  | _, m, .int _, _, _ => by cases m <;> rfl
  | n, m, .str _, _, h => by unfold okx at h ⊢; exact h
  | n + 1, m + 1, .list xs, hm, h => by
    unfold okx at h ⊢
    rw [Bool.and_eq_true, List.all_eq_true] at h ⊢
    exact ⟨h.1, fun d hd => okx_mono (Nat.le_of_succ_le_succ hm) (h.2 d hd)⟩
  | n + 1, m + 1, .tuple xs, hm, h => by
    unfold okx at h ⊢
    rw [Bool.and_eq_true, List.all_eq_true] at h ⊢
    exact ⟨h.1, fun d hd => okx_mono (Nat.le_of_succ_le_succ hm) (h.2 d hd)⟩
  | 0, _, .list _, _, h => by unfold okx at h; cases h
  | 0, _, .tuple _, _, h => by unfold okx at h; cases h
  | 0, _, .dict _, _, h => by unfold okx at h; cases h
  | _ + 1, _, .dict _, _, h => by unfold okx at h; cases h
  | _ + 1, 0, .list _, hm, _ => absurd hm (by omega)
  | _ + 1, 0, .tuple _, hm, _ => absurd hm (by omega)
theorem okx_tup {n : Nat} {xs : List PyData} {x : PyData} (h : okx n (.tuple xs) = true) (hx : x ∈ xs) : okx n x = true := by
  cases n with
  | zero => unfold okx at h; cases h
  | succ n =>
    unfold okx at h
    rw [Bool.and_eq_true, List.all_eq_true] at h
    exact okx_mono (by omega) (h.2 x hx)
theorem okx_lst {n : Nat} {xs : List PyData} {x : PyData} (h : okx n (.list xs) = true) (hx : x ∈ xs) : okx n x = true := by
  cases n with
  | zero => unfold okx at h; cases h
  | succ n =>
    unfold okx at h
    rw [Bool.and_eq_true, List.all_eq_true] at h
    exact okx_mono (by omega) (h.2 x hx)
theorem okx_len {n : Nat} {xs : List PyData} (h : okx n (.tuple xs) = true) : xs.length ≤ 90000 := by
  cases n with
  | zero => unfold okx at h; cases h
  | succ n =>
    unfold okx at h
    rw [Bool.and_eq_true] at h
    exact of_decide_eq_true h.1
theorem okx_str {n : Nat} {z : Str} (h : okx n (.str z) = true) : z.length ≤ 100000 ∧ PyData.strOk z = true := by
  unfold okx at h
  rw [Bool.and_eq_true] at h
  exact ⟨of_decide_eq_true h.2, h.1⟩
theorem okx_tup_of {n : Nat} {xs : List PyData} (hl : xs.length ≤ 90000) (h : ∀ x ∈ xs, okx n x = true) : okx (n + 1) (.tuple xs) = true := by
  unfold okx
  rw [Bool.and_eq_true, List.all_eq_true]
  exact ⟨decide_eq_true hl, h⟩
theorem okx_lst_of {n : Nat} {xs : List PyData} (hl : xs.length ≤ 90000) (h : ∀ x ∈ xs, okx n x = true) : okx (n + 1) (.list xs) = true := by
  unfold okx
  rw [Bool.and_eq_true, List.all_eq_true]
  exact ⟨decide_eq_true hl, h⟩
/-! calls of defs of data, by the number of arguments -/
section
variable {M : Type} {R : MR M} {K : PySem.W.Frag} {E : XK} {XP : Addr → M → Prop} {ρ : List Sl} {m : M} {k : Rk → M → Prop} {ta tb tc te : TE} {tr : TA} {E' : XK}
theorem we_call1 {p : PyData → Prop} {f : PyData → PyData} (h : WA R K E XP ρ m tr fun rs m1 => ∃ x, DLo rs = some [x] ∧ p x ∧ k (.d (f x)) m1) : WE R K E XP ρ m (tCall (spP K (P1 p) (R1 f)) [] E' tr) k :=
  we_callP (dvs := []) (WA.mono h fun rs m1 ⟨x, e, h1, h2⟩ => ⟨[x], e, ⟨x, rfl, h1⟩, fun r hr => by rw [hr x rfl]; exact h2⟩)
theorem we_call2 {p : PyData → PyData → Prop} {f : PyData → PyData → PyData} (h : WA R K E XP ρ m tr fun rs m1 => ∃ x y, DLo rs = some [x, y] ∧ p x y ∧ k (.d (f x y)) m1) : WE R K E XP ρ m (tCall (spP K (P2 p) (R2' f)) [] E' tr) k :=
  we_callP (dvs := []) (WA.mono h fun rs m1 ⟨x, y, e, h1, h2⟩ => ⟨[x, y], e, ⟨x, y, rfl, h1⟩, fun r hr => by rw [hr x y rfl]; exact h2⟩)
theorem we_call3 {p : PyData → PyData → PyData → Prop} {f : PyData → PyData → PyData → PyData} (h : WA R K E XP ρ m tr fun rs m1 => ∃ x y z, DLo rs = some [x, y, z] ∧ p x y z ∧ k (.d (f x y z)) m1) : WE R K E XP ρ m (tCall (spP K (P3 p) (R3 f)) [] E' tr) k :=
  we_callP (dvs := []) (WA.mono h fun rs m1 ⟨x, y, z, e, h1, h2⟩ => ⟨[x, y, z], e, ⟨x, y, z, rfl, h1⟩, fun r hr => by rw [hr x y z rfl]; exact h2⟩)
theorem we_callL1 {p : PyData → Prop} {f : PyData → PyData} {i : Nat} {g : Addr} (hi : ρ[i]? = some (.v (.ref g))) (h : WA R K E XP ρ m tr fun rs m1 => ∃ x, DLo rs = some [x] ∧ p x ∧ k (.d (f x)) m1) : WE R K E XP ρ m (tCallL i g (spP K (P1 p) (R1 f)) [] E' tr) k :=
  we_callL hi (WA.mono h fun rs m1 ⟨x, e, h1, h2⟩ => ⟨[x], e, ⟨x, rfl, h1⟩, fun r hr => by rw [hr x rfl]; exact h2⟩)
end
section
variable {M : Type} {R : MR M} {K : PySem.W.Frag} {E : XK} {XP : Addr → M → Prop} {ρ : List Sl} {m : M}
theorem isWS {t nx rt bk ct} (h : WS R K E XP ρ m t nx rt bk ct) : WS R K E XP ρ m t nx rt bk ct := h
theorem isWE {t k} (h : WE R K E XP ρ m t k) : WE R K E XP ρ m t k := h
theorem isWA {t k} (h : WA R K E XP ρ m t k) : WA R K E XP ρ m t k := h
theorem isWT {t k} (h : WT R K E XP ρ m t k) : WT R K E XP ρ m t k := h
theorem isWI {t k} (h : WI R K E XP ρ m t k) : WI R K E XP ρ m t k := h
theorem isWO {t k} (h : WO R K E XP ρ m t k) : WO R K E XP ρ m t k := h
theorem isWJ {t o k} (h : WJ R K E XP ρ m t o k) : WJ R K E XP ρ m t o k := h
theorem isWG {t d k} (h : WG R K E XP ρ m t d k) : WG R K E XP ρ m t d k := h
theorem isWGs {t d k} (h : WGs R K E XP ρ m t d k) : WGs R K E XP ρ m t d k := h
theorem isOp {r a b k} (h : OpP R K E XP ρ m r a b k) : OpP R K E XP ρ m r a b k := h
theorem isCb {r a k} (h : CbP R K E XP ρ m r a k) : CbP R K E XP ρ m r a k := h
theorem isSlp {r a l u k} (h : SlP R K E XP ρ m r a l u k) : SlP R K E XP ρ m r a l u k := h
end
theorem signs_map {α : Type} (z : Str) (f : PyData → α) : (signs z).map f = z.cps.toList.map fun c => f (.str ⟨#[c]⟩) := by
  unfold signs
  rw [List.map_map]
  rfl
theorem sgn_len (z : Str) : (signs z).length = z.length := by
  unfold signs
  rw [List.length_map]
  show z.cps.toList.length = _
  rw [Array.length_toList]
  rfl
theorem signs_mem {z : Str} {x : PyData} (h : x ∈ signs z) : ∃ c, x = .str ⟨#[c]⟩ ∧ c ∈ z.cps.toList := by
  unfold signs at h
  obtain ⟨c, hc, e⟩ := List.mem_map.mp h
  exact ⟨c, e.symm, hc⟩
/-- the one sign of a text -/
def chOf : PyData → Nat
  | .str z => z.cps.toList.getD 0 0
  | _ => 0
theorem chOf_one (c : Nat) : chOf (.str ⟨#[c]⟩) = c := rfl
theorem all_map_id {α : Type} (xs : List α) (g : α → Bool) : (xs.map g).all id = xs.all g := by
  rw [List.all_map]; rfl
/-! results that keep a promise -/
def Q1 (g : PyData → PyData → Prop) : List PyData → Rk → Prop := fun ds r => ∀ x, ds = [x] → ∃ y, r = .d y ∧ g x y
def Q2 (g : PyData → PyData → PyData → Prop) : List PyData → Rk → Prop := fun ds r => ∀ x y, ds = [x, y] → ∃ z, r = .d z ∧ g x y z
def Q3 (g : PyData → PyData → PyData → PyData → Prop) : List PyData → Rk → Prop := fun ds r => ∀ x y z, ds = [x, y, z] → ∃ u, r = .d u ∧ g x y z u
/-- the result is a new list -/
def L1 (g : PyData → List PyData → Prop) : List PyData → Rk → Prop := fun ds r => ∀ x, ds = [x] → ∃ y, r = .o y ∧ g x y
def L2' (g : PyData → PyData → List PyData → Prop) : List PyData → Rk → Prop := fun ds r => ∀ x y, ds = [x, y] → ∃ z, r = .o z ∧ g x y z
def L3 (g : PyData → PyData → PyData → List PyData → Prop) : List PyData → Rk → Prop := fun ds r => ∀ x y z, ds = [x, y, z] → ∃ u, r = .o u ∧ g x y z u
section
variable {M : Type} {R : MR M} {K : PySem.W.Frag} {E : XK} {XP : Addr → M → Prop} {ρ : List Sl} {m : M} {k : Rk → M → Prop} {ta tb tc te : TE} {tr : TA} {E' : XK}
theorem q1d {g : PyData → PyData → Prop} {x y : PyData} (h : g x y) : Q1 g [x] (.d y) ∧ isDo (.d y) := ⟨fun z e => by cases e; exact ⟨y, rfl, h⟩, True.intro⟩
theorem q2d {g : PyData → PyData → PyData → Prop} {x y z : PyData} (h : g x y z) : Q2 g [x, y] (.d z) ∧ isDo (.d z) := ⟨fun _ _ e => by cases e; exact ⟨z, rfl, h⟩, True.intro⟩
theorem q3d {g : PyData → PyData → PyData → PyData → Prop} {x y z u : PyData} (h : g x y z u) : Q3 g [x, y, z] (.d u) ∧ isDo (.d u) := ⟨fun _ _ _ e => by cases e; exact ⟨u, rfl, h⟩, True.intro⟩
theorem l1o {g : PyData → List PyData → Prop} {x : PyData} {y : List PyData} (h : g x y) : L1 g [x] (.o y) ∧ isDo (.o y) := ⟨fun z e => by cases e; exact ⟨y, rfl, h⟩, True.intro⟩
theorem l2o {g : PyData → PyData → List PyData → Prop} {x y : PyData} {z : List PyData} (h : g x y z) : L2' g [x, y] (.o z) ∧ isDo (.o z) := ⟨fun _ _ e => by cases e; exact ⟨z, rfl, h⟩, True.intro⟩
theorem l3o {g : PyData → PyData → PyData → List PyData → Prop} {x y z : PyData} {u : List PyData} (h : g x y z u) : L3 g [x, y, z] (.o u) ∧ isDo (.o u) := ⟨fun _ _ _ e => by cases e; exact ⟨u, rfl, h⟩, True.intro⟩
theorem we_callQ1 {p : PyData → Prop} {g : PyData → PyData → Prop} (h : WA R K E XP ρ m tr fun rs m1 => ∃ x, DLo rs = some [x] ∧ p x ∧ ∀ y, g x y → k (.d y) m1) : WE R K E XP ρ m (tCall (spP K (P1 p) (Q1 g)) [] E' tr) k :=
  we_callP (dvs := []) (WA.mono h fun rs m1 ⟨x, e, h1, h2⟩ => ⟨[x], e, ⟨x, rfl, h1⟩, fun r hr => by obtain ⟨y, rfl, hg⟩ := hr x rfl; exact h2 y hg⟩)
theorem we_callQ2 {p : PyData → PyData → Prop} {g : PyData → PyData → PyData → Prop} (h : WA R K E XP ρ m tr fun rs m1 => ∃ x y, DLo rs = some [x, y] ∧ p x y ∧ ∀ z, g x y z → k (.d z) m1) : WE R K E XP ρ m (tCall (spP K (P2 p) (Q2 g)) [] E' tr) k :=
  we_callP (dvs := []) (WA.mono h fun rs m1 ⟨x, y, e, h1, h2⟩ => ⟨[x, y], e, ⟨x, y, rfl, h1⟩, fun r hr => by obtain ⟨z, rfl, hg⟩ := hr x y rfl; exact h2 z hg⟩)
theorem we_callQ3 {p : PyData → PyData → PyData → Prop} {g : PyData → PyData → PyData → PyData → Prop} (h : WA R K E XP ρ m tr fun rs m1 => ∃ x y z, DLo rs = some [x, y, z] ∧ p x y z ∧ ∀ u, g x y z u → k (.d u) m1) : WE R K E XP ρ m (tCall (spP K (P3 p) (Q3 g)) [] E' tr) k :=
  we_callP (dvs := []) (WA.mono h fun rs m1 ⟨x, y, z, e, h1, h2⟩ => ⟨[x, y, z], e, ⟨x, y, z, rfl, h1⟩, fun r hr => by obtain ⟨u, rfl, hg⟩ := hr x y z rfl; exact h2 u hg⟩)
theorem we_callL1o {p : PyData → Prop} {g : PyData → List PyData → Prop} (h : WA R K E XP ρ m tr fun rs m1 => ∃ x, DLo rs = some [x] ∧ p x ∧ ∀ y, g x y → k (.o y) m1) : WE R K E XP ρ m (tCall (spP K (P1 p) (L1 g)) [] E' tr) k :=
  we_callP (dvs := []) (WA.mono h fun rs m1 ⟨x, e, h1, h2⟩ => ⟨[x], e, ⟨x, rfl, h1⟩, fun r hr => by obtain ⟨y, rfl, hg⟩ := hr x rfl; exact h2 y hg⟩)
theorem we_callL2o {p : PyData → PyData → Prop} {g : PyData → PyData → List PyData → Prop} (h : WA R K E XP ρ m tr fun rs m1 => ∃ x y, DLo rs = some [x, y] ∧ p x y ∧ ∀ z, g x y z → k (.o z) m1) : WE R K E XP ρ m (tCall (spP K (P2 p) (L2' g)) [] E' tr) k :=
  we_callP (dvs := []) (WA.mono h fun rs m1 ⟨x, y, e, h1, h2⟩ => ⟨[x, y], e, ⟨x, y, rfl, h1⟩, fun r hr => by obtain ⟨z, rfl, hg⟩ := hr x y rfl; exact h2 z hg⟩)
theorem we_callL3o {p : PyData → PyData → PyData → Prop} {g : PyData → PyData → PyData → List PyData → Prop} (h : WA R K E XP ρ m tr fun rs m1 => ∃ x y z, DLo rs = some [x, y, z] ∧ p x y z ∧ ∀ u, g x y z u → k (.o u) m1) : WE R K E XP ρ m (tCall (spP K (P3 p) (L3 g)) [] E' tr) k :=
  we_callP (dvs := []) (WA.mono h fun rs m1 ⟨x, y, z, e, h1, h2⟩ => ⟨[x, y, z], e, ⟨x, y, z, rfl, h1⟩, fun r hr => by obtain ⟨u, rfl, hg⟩ := hr x y z rfl; exact h2 u hg⟩)
end
theorem nums_mem {lo : Int} {n : Nat} {x : PyData} (h : x ∈ nums lo n) : ∃ j : Nat, j < n ∧ x = .int (lo + (j : Int)) := by
  unfold nums at h
  obtain ⟨j, hj, e⟩ := List.mem_map.mp h
  exact ⟨j, List.mem_range.mp hj, e.symm⟩
theorem nums_map {α : Type} {lo : Int} {n : Nat} (f : PyData → α) : (nums lo n).map f = (List.range n).map fun j : Nat => f (.int (lo + (j : Int))) := by
  unfold nums
  rw [List.map_map]
  rfl
theorem sgn_joinL : ∀ cs : List Nat, TL.joinL [] (cs.map fun c => [c]) = cs
  | [] => rfl
  | [c] => rfl
  | c :: d :: r => by
    show [c] ++ ([] ++ TL.joinL [] ((d :: r).map fun c => [c])) = _
    rw [sgn_joinL (d :: r)]
    rfl
theorem sgn_join (cs : List Nat) : Txt.join ("" : Str) (cs.map fun c => (⟨#[c]⟩ : Str)) = ⟨cs.toArray⟩ := by
  have h := SX.join_S [] (cs.map fun c => [c])
  rw [sgn_joinL, List.map_map] at h
  have e : ("" : Str) = SX.S [] := by decide +kernel
  rw [e]
  exact h
theorem sgn_sum (cs : List Nat) : ((cs.map fun c => (⟨#[c]⟩ : Str)).map (·.length)).sum = cs.length := by
  induction cs with
  | nil => rfl
  | cons c cs ih => rw [List.map_cons, List.map_cons, List.sum_cons, ih, List.length_cons]; show 1 + _ = _; omega
section
variable {M : Type} {R : MR M} {K : PySem.W.Frag} {E : XK} {XP : Addr → M → Prop} {ρ : List Sl} {m : M} {k : Rk → M → Prop}
theorem opP_pow {i j : Int} (hc : CPow i j) (hk : k (.d (.int (i ^ j.toNat))) m) : OpP R K E XP ρ m (rI CPow fun i j => .int (i ^ j.toNat)) (.d (.int i)) (.d (.int j)) k := opP_ic (C := CPow) (g := fun i j => .int (i ^ j.toNat)) hc hk
end
theorem log_small {i : Int} (h : i.natAbs < 2 ^ 1900) : i.natAbs.log2 < 1920 := by
  by_cases h0 : i.natAbs = 0
  · rw [h0]; decide
  · have := (Nat.log2_lt h0).mpr h
    omega
theorem signs_at {z : Str} {i c : Nat} (hx : (signs z)[i]? = some (.str ⟨#[c]⟩)) : z.cps.toList[i]? = some c := by
  unfold signs at hx
  rw [List.getElem?_map] at hx
  cases h : z.cps.toList[i]? with
  | none => rw [h] at hx; cases hx
  | some d => rw [h] at hx; cases hx; rfl
/-! a text times a number -/
def repS (z : Str) (n : Nat) : Str := ⟨List.foldl (fun x1 x2 => x1 ++ x2) #[] (List.replicate n z.cps)⟩
theorem fold_size {c : Array Nat} : ∀ (n : Nat) (a : Array Nat), (List.foldl (fun x1 x2 => x1 ++ x2) a (List.replicate n c)).size = a.size + n * c.size
  | 0, a => by simp
  | n + 1, a => by
    rw [List.replicate_succ, List.foldl_cons, fold_size n, Array.size_append, Nat.succ_mul]
    omega
theorem repS_len (z : Str) (n : Nat) : (repS z n).length = n * z.length := by
  have h := fold_size (c := z.cps) n #[]
  rw [show (#[] : Array Nat).size = 0 from rfl, Nat.zero_add] at h
  exact h
def rRepS : R2 := fun x y H Q => ∃ z n, x = .str z ∧ y = .int n ∧ 2 ≤ n ∧ n ≤ 100000 ∧ 1 ≤ z.length ∧ z.length ≤ 100 ∧ Q (.str (repS z n.toNat)) H
theorem op_repS {X : Cx} : OpR X (binaryOp .Mult) rRepS := by
  intro pins s σ H x y v u Q I rx ry ⟨z, n, ex, ey, h1, h2, h3, h4, q⟩
  subst ex ey
  obtain ⟨t, rfl⟩ := rx
  obtain ⟨t', rfl⟩ := ry
  have hc : (n == 1 || z.length == 0) = false := by
    rw [Bool.or_eq_false_iff, beq_eq_false_iff_ne, beq_eq_false_iff_ne]
    omega
  refine P.mul_str (by rw [Bool.or_eq_false_iff, decide_eq_false_iff_not, decide_eq_false_iff_not]; omega) (fun _ _ => ?_) (fun _ _ => ?_) ?_
  · have : (100 : Int) ≤ (2 ^ 63 - 1) / n := by
      rw [Int.le_ediv_iff_mul_le (by omega)]
      omega
    omega
  · have : z.length * n.toNat ≤ 100 * 100000 := Nat.mul_le_mul h4 (by omega)
    unfold Builtin.Str.tooLong
    rw [decide_eq_false_iff_not, sizeLine_eq]
    omega
  · rw [if_neg (by omega), if_neg (by rw [hc]; exact Bool.false_ne_true)]
    simp only [Made.post]
    refine ⟨?_, .str (repS z n.toNat), H, I.tok _, ⟨_, rfl⟩, q⟩
    show (repS z n.toNat).length ≤ _
    rw [repS_len, sizeLine_eq]
    have : n.toNat * z.length ≤ 100000 * 100 := Nat.mul_le_mul (by omega) h4
    omega
section
variable {M : Type} {R : MR M} {K : PySem.W.Frag} {E : XK} {XP : Addr → M → Prop} {ρ : List Sl} {m : M} {k : Rk → M → Prop}
theorem opP_repS {z : Str} {n : Int} (hc : 2 ≤ n ∧ n ≤ 100000 ∧ 1 ≤ z.length ∧ z.length ≤ 100) (hk : k (.d (.str (repS z n.toNat))) m) : OpP R K E XP ρ m rRepS (.d (.str z)) (.d (.int n)) k :=
  opP_sc (v := .str _) rfl (fun _ ra rb Q q => ⟨z, n, dq_str ra, dq_int rb, hc.1, hc.2.1, hc.2.2.1, hc.2.2.2, q⟩) hk
end
/-! ## defs that may raise -/
def tLeave (C : Addr) (E : XK) : TS := fun _ _ H => E (.ref C) none H
theorem ps_leave {X : Cx} {E : XK} {e : Expr} {C : Addr} {pos : Pos} (hc : X.calm = true) (tk : Takes X (fun cls d _ H => E cls d H)) (he : PMk X e (fun _ H Q => Q (.ref C) none H)) : PS X (.Raise (some e) none pos) (tLeave C E) := ps_raise hc tk he
theorem ws_leave {M : Type} {R : MR M} {K : PySem.W.Frag} {E : XK} {XP : Addr → M → Prop} {ρ : List Sl} {m : M} {nx bk ct : List Sl → M → Prop} {rt : Rk → M → Prop} {C : Addr} (h : XP C m) : WS R K E XP ρ m (tLeave C E) nx rt bk ct := by
  unfold WS
  intro F0 H0 B0 F H B σ D d _ _ _ _
  exact d.x C m _ _ _ h d.st d.r
def spX (K : PySem.W.Frag) (pre : List PyData → Prop) (post : List PyData → Rk → Prop) (bad : List PyData → Addr → Prop) : Sp := fun vs H Q E => ∃ ds B, DqAll K B vs ds ∧ Same B H ∧ pre ds ∧
  (∀ v r H' B', post ds r → Same H H' → Same B B' → Same B' H' → (∀ x, H x ≠ none → B x = none → B' x = none) → RelP K H H' B' v r → Q v H') ∧ ∀ C H', bad ds C → Same H H' → E (.ref C) none H'
theorem run_X {K : PySem.W.Frag} {E : XK} {pre : List PyData → Prop} {post : List PyData → Rk → Prop} {bad : List PyData → Addr → Prop} {vs : List V} {H : Hp} {Q : VK} {N : List Str} {ts : TS} (h : spX K pre post bad vs H Q E) (n : Nat) (hn : N.length - vs.length = n)
    (body : ∀ ds, pre ds → WS noM K E (fun C _ => bad ds C) (ds.map Sl.d ++ List.replicate n Sl.u) () ts (fun _ _ => post ds (.d .none)) (fun r _ => post ds r ∧ isDo r) (fun _ _ => False) (fun _ _ => False)) :
    ts { nx := fun _ H' => Q .non H', rt := Q } (L2.start N vs) H := by
  obtain ⟨ds, B, hd, hB, hp, q, qx⟩ := h
  have hl := dqa_len hd
  have D0 : DS noM K E (fun C _ => bad ds C) (fun _ => False) H B (fun _ => False) H B (L2.start N vs) (ds.map Sl.d ++ List.replicate n Sl.u) () := by
    refine ⟨by unfold L2.start; simp [hl]; omega, .refl hB, fun _ => id, fun i t ht => ?_, fun i j p xs ys h1 => ?_, fun C _ _ H' _ z st _ => qx C H' z fun x o hx => st.k x o hx id⟩
    · unfold L2.start
      by_cases hi : i < ds.length
      · rw [List.getElem?_append_left (by rw [List.length_map]; exact hi), List.getElem?_map, List.getElem?_eq_getElem hi] at ht
        cases ht
        obtain ⟨v, h1, h2⟩ := dqa_at hd (List.getElem?_eq_getElem hi)
        refine ⟨some v, ?_, v, rfl, h2⟩
        rw [List.getElem?_append_left (by rw [List.length_map]; omega), List.getElem?_map, h1]
        rfl
      · rw [List.getElem?_append_right (by rw [List.length_map]; omega), List.getElem?_replicate] at ht
        split at ht
        · next hc =>
          cases ht
          rw [List.length_map] at hc
          refine ⟨none, ?_, True.intro⟩
          rw [List.getElem?_append_right (by rw [List.length_map]; omega), List.getElem?_replicate, if_pos (by rw [List.length_map]; omega)]
        · cases ht
    · have := List.mem_of_getElem? h1
      rcases List.mem_append.mp this with z | z
      · obtain ⟨x, _, e⟩ := List.mem_map.mp z; cases e
      · have := (List.mem_replicate.mp z).2; cases this
  have fin : ∀ {v r F' H' B'}, (post ds r ∧ isDo r) → Stq (fun _ => False) H B F' H' B' → (noM.rel () F' H' B') → RelR K H F' H' B' v r → Q v H' := fun {v r F' H' B'} hr st hF rel =>
    q v r H' B' hr.1 (fun x o hx => st.k x o hx id) st.b st.s st.f (by
      cases r with
      | d x => exact rel
      | o xs => obtain ⟨p, us, e, g1, g2, _, g4, g5⟩ := rel; exact ⟨p, us, e, g1, g2, g4, g5⟩
      | l xs => exact hr.2.elim
      | v x => exact hr.2.elim
      | c x => exact hr.2.elim)
  have hb := body ds hp
  unfold WS at hb
  exact hb _ D0 (fun hk D' _ => fin ⟨hk, True.intro⟩ D'.st D'.r .non) (fun hk st hF rel => fin hk st hF rel) (fun z => z.elim) (fun z => z.elim)
theorem okX {P : Program} {w : World} {K : PySem.W.Frag} {mg : Str → Option Value} {base : Heap} {x qual : Str} {st : Stmt} {f : Addr} {fd : FuncData} {N ps : List Str} {k : Nat} {pre : List PyData → Prop} {post : List PyData → Rk → Prop} {bad : List PyData → Addr → Prop}
    (F : Fun K x qual st f fd) (S : FnScope N ps (defScope st)) (n : Nat) (hn : N.length = ps.length + n) (len : ∀ ds, pre ds → ds.length = ps.length)
    (hb : ∀ (cdv : Value) (A : Around) (outer : List Env) (s : Shared) (H : Hp) (E : XK), Room k (A.deeper (envOfC qual (defScope st) s.heap.objs.size f cdv)) →
      ∃ t, PSs (cxOf (L2.CX P w) P w K mg base N qual (defScope st) f cdv A outer s H E) (defBody st) t ∧
        ∀ ds, pre ds → WS noM K E (fun C _ => bad ds C) (ds.map Sl.d ++ List.replicate n Sl.u) () t (fun _ _ => post ds (.d .none)) (fun r _ => post ds r ∧ isDo r) (fun _ _ => False) (fun _ _ => False)) : FnOk P w K mg base (L2.CX P w) (k + 1) f fd ps (spX K pre post bad) :=
  F.okX S (fun vs H Q E ⟨ds, B, hd, _, hp, _⟩ => (dqa_len hd).trans (len ds hp)) fun cdv A outer s H vs Q E hr h => by
    obtain ⟨t, h1, h2⟩ := hb cdv A outer s H E hr
    refine ⟨t, h1, run_X h n ?_ fun ds hp => h2 ds hp⟩
    obtain ⟨ds, B, hd, _, hp, _⟩ := h
    rw [dqa_len hd, len ds hp, hn]
    omega
theorem ws_monoN {M : Type} {R : MR M} {K : PySem.W.Frag} {E : XK} {XP : Addr → M → Prop} {ρ : List Sl} {m : M} {nx nx' bk ct : List Sl → M → Prop} {rt : Rk → M → Prop} {t : TS} (h : WS R K E XP ρ m t nx rt bk ct) (g : ∀ ρ' m', nx ρ' m' → nx' ρ' m') : WS R K E XP ρ m t nx' rt bk ct := by
  unfold WS at h ⊢
  intro F0 H0 B0 F H B σ D d n r b c
  exact h D d (fun hk D' q => n (g _ _ hk) D' q) r b c
/-- a stop behind a statement -/
theorem ws_mid {M : Type} {R : MR M} {K : PySem.W.Frag} {E : XK} {XP : Addr → M → Prop} {ρ : List Sl} {m : M} {nx bk ct : List Sl → M → Prop} {rt : Rk → M → Prop} {t u : TS} (ρ1 : List Sl) (h : WS R K E XP ρ m t (fun ρ' m' => ρ' = ρ1 ∧ m' = m) rt bk ct) (g : WS R K E XP ρ1 m u nx rt bk ct) : WS R K E XP ρ m (tSeq t u) nx rt bk ct :=
  ws_seq (ws_monoN h fun ρ' m' e => by obtain ⟨rfl, rfl⟩ := e; exact g)
/-- a law's body behind its draws -/
theorem enter_law {K : PySem.W.Frag} {E : XK} {Q : VK} {ts : TS} {H : Hp} {a p : Addr} {ds : List Int} (n : Nat) (hp : H p = some (.lst (ds.map V.int))) (q : ∀ H', Q (.bl true) H')
    (body : WS noM K E (fun _ _ => False) (.u :: .d (.list (ds.map .int)) :: List.replicate n Sl.u) () ts (fun _ _ => False) (fun r _ => r = .d (.bool true)) (fun _ _ => False) (fun _ _ => False)) :
    ts { nx := fun _ H' => Q .non H', rt := Q } (some (.ref a) :: some (.ref p) :: List.replicate n none) H := by
  have hds : ∀ (G : Hp) (ds : List Int), DqAll K G (ds.map V.int) (ds.map .int) := fun G ds => by
    induction ds with
    | nil => exact .nil
    | cons x xs ih => exact .cons (.int x) ih
  have D0 : DS noM K E (fun _ _ => False) (fun _ => False) H H (fun _ => False) H H (some (.ref a) :: some (.ref p) :: List.replicate n none) (.u :: .d (.list (ds.map .int)) :: List.replicate n Sl.u) () := by
    refine ⟨by simp, .refl (Same.refl _), fun _ => id, fun i t ht => ?_, fun i j p xs ys h1 => ?_, fun _ _ _ _ _ z => z.elim⟩
    · match i with
      | 0 => cases ht; exact ⟨_, rfl, True.intro⟩
      | 1 => cases ht; exact ⟨_, rfl, _, rfl, .lst hp (hds _ _)⟩
      | i + 2 =>
        simp only [List.getElem?_cons_succ, List.getElem?_replicate] at ht ⊢
        split at ht
        · next h => cases ht; exact ⟨none, by rw [if_pos h], True.intro⟩
        · cases ht
    · match i with
      | 0 => cases h1
      | 1 => cases h1
      | i + 2 =>
        simp only [List.getElem?_cons_succ, List.getElem?_replicate] at h1
        split at h1 <;> cases h1
  unfold WS at body
  exact body _ D0 (fun z => z.elim) (fun {v r m' F' H' B'} hk st hF rel => by rw [hk] at rel; rw [dq_bl rel]; exact q _) (fun z => z.elim) (fun z => z.elim)
theorem opP_catG {M : Type} {R : MR M} {K : PySem.W.Frag} {E : XK} {XP : Addr → M → Prop} {ρ : List Sl} {m : M} {k : Rk → M → Prop} {a b : Rk} {xs ys : List PyData} (ha : LR a xs) (hb : LR b ys) (hl : xs.length + ys.length ≤ 90000) (hk : ∀ zs, zs = xs ++ ys → k (.o zs) m) : OpP R K E XP ρ m rCat a b k := opP_cat ha hb hl (hk _ rfl)
theorem peK_bm {K : PySem.W.Frag} {X : Cx} {T name id : _} {r : _} {o e : Expr} {es : List Expr} {to : TE} {t : TA} {cpos apos : Pos} (h : X.K = K) (pa : PlainAttrs T) (slot : Slot T name id) (hty : typeOf (.builtin id) = pure (.type "method_descriptor")) (hm : MtR X id r) (ho : PE X o to) (ha : PA X (e :: es) t)
    (hbase : attributeBase o name X.env (eval o X.env) = eval o X.env := by rfl)
    (hfew : ((backTo cpos (starEach (e :: es) X.env)).all (fun x => !x.1) && (backToKw cpos (keywordEach [] X.env)).all (fun x => x.1.isSome)
      && decide ((e :: es).length + ([] : List Keyword).length + (if ([] : List Keyword).isEmpty then 0 else 1) < 30)) = true := by rfl)
    (hline : (apos.endLine == cpos.line) = true := by rfl) (hs : starEach (e :: es) X.env = (false, eval e X.env) :: starEach es X.env := by rfl) (hplain : (backTo cpos (starEach es X.env)).any (·.1) = false := by rfl) :
    PE X (.Call (.Attribute o name apos) (e :: es) [] cpos) (tBM K T r to t) := by
  subst h
  exact pe_bm pa slot hty hm ho ha hbase hfew hline hs hplain
def rIsB : R2 := fun x y H Q => ∃ a b, x = .bl a ∧ y = .bl b ∧ Q (.bl (decide (a = b))) H
def rNotB : R2 := fun x y H Q => ∃ a b, x = .bl a ∧ y = .bl b ∧ Q (.bl (!decide (a = b))) H
theorem op_isB1 {X : Cx} : OpR X (compareOp .Is) rIsB := op_is_bl
theorem op_notB1 {X : Cx} : OpR X (compareOp .IsNot) rNotB := op_isnot_bl
section
variable {M : Type} {R : MR M} {K : PySem.W.Frag} {E : XK} {XP : Addr → M → Prop} {ρ : List Sl} {m : M} {k : Rk → M → Prop}
theorem opP_isB {a b : Bool} (hk : k (.d (.bool (decide (a = b)))) m) : OpP R K E XP ρ m rIsB (.d (.bool a)) (.d (.bool b)) k :=
  opP_sc (v := .bl (decide (a = b))) rfl (fun _ ra rb Q q => ⟨a, b, dq_bl ra, dq_bl rb, q⟩) hk
theorem opP_notB {a b : Bool} (hk : k (.d (.bool (!decide (a = b)))) m) : OpP R K E XP ρ m rNotB (.d (.bool a)) (.d (.bool b)) k :=
  opP_sc (v := .bl (!decide (a = b))) rfl (fun _ ra rb Q q => ⟨a, b, dq_bl ra, dq_bl rb, q⟩) hk
end
theorem opK_repT {K : PySem.W.Frag} {X : Cx} (h : X.K = K) : OpR X (binaryOp .Mult) (rRepT K) := by subst h; exact op_repT
theorem dqa_rep {K : PySem.W.Frag} {H : Hp} {vs : List V} {ds : List PyData} (h : DqAll K H vs ds) : ∀ n : Nat, DqAll K H (List.replicate n vs).flatten (List.replicate n ds).flatten
  | 0 => .nil
  | n + 1 => by rw [List.replicate_succ, List.replicate_succ, List.flatten_cons, List.flatten_cons]; exact dqa_app h (dqa_rep h n)
theorem opP_repT {M : Type} {R : MR M} {K : PySem.W.Frag} {E : XK} {XP : Addr → M → Prop} {ρ : List Sl} {m : M} {k : Rk → M → Prop} {xs : List PyData} {j : Int} (hc : xs ≠ [] ∧ 2 ≤ j ∧ j ≤ 1000 ∧ xs.length ≤ 1000) (hk : k (.d (.tuple (List.replicate j.toNat xs).flatten)) m) : OpP R K E XP ρ m (rRepT K) (.d (.tuple xs)) (.d (.int j)) k := by
  unfold OpP
  intro F0 H0 B0 F H B σ Hs x y D ra rb Q q
  obtain ⟨p, vs, rfl, h1, h2⟩ := dq_tup ra
  have e := dq_int rb
  subst e
  have l1 := dqa_len h2
  exact ⟨p, j, vs, rfl, rfl, sqt_same D.st.s h1, fun z => hc.1 (by rw [z] at l1; exact List.length_eq_zero_iff.mp l1.symm), hc.2.1, hc.2.2.1, by omega, fun p' hp => newD D hp (dqa_rep h2 _) hk q⟩
theorem we_callX {M : Type} {R : MR M} {K : PySem.W.Frag} {E : XK} {XP : Addr → M → Prop} {ρ : List Sl} {m : M} {k : Rk → M → Prop} {tr : TA} {pre : List PyData → Prop} {post : List PyData → Rk → Prop} {bad : List PyData → Addr → Prop} {E' : XK} (h : WA R K E XP ρ m tr fun rs m1 => ∃ ds, DLo rs = some ds ∧ pre ds ∧ (∀ C, ¬ bad ds C) ∧ ∀ r, post ds r → k r m1) : WE R K E XP ρ m (tCall (spX K pre post bad) [] E' tr) k := by
  unfold WE
  intro F0 H0 B0 F H B σ D Q q
  refine wa_data h D _ fun vs ds m1 F1 H1 B1 ⟨hp, hn, hk⟩ D1 q1 hd => ?_
  refine ⟨ds, B1, by rw [List.append_nil]; exact hd, D1.st.s, hp, fun v r H' B' hr s1 b1 t1 f1 rel => ?_, fun C H' hb => absurd hb (hn C)⟩
  have D2 := D1.pure s1 b1 t1 f1
  have q2 := q1.trans (Stq.pure (F := F1) s1 b1 t1 f1)
  refine q v r m1 F1 H' B' (hk r hr) D2 q2 ?_
  cases r with
  | d x => exact rel
  | o xs =>
    obtain ⟨p, us, rfl, g1, g2, g3, g4⟩ := rel
    exact ⟨p, us, rfl, g1, g2, D1.nF g3, Classical.byContradiction fun z => q1.e p z g3, g4⟩
  | l _ => exact rel.elim
  | v _ => exact rel.elim
  | c _ => exact rel.elim
end My
local macro_rules | `(tactic| walk_at "go") => `(tactic| try dsimp only [L2.gName, L2.tSeq, L2.tAsg, L2.tNext, L2.tDrop])
local macro_rules | `(tactic| walk_at "zE") => `(tactic| first
  | ((with_reducible refine' My.we_var ?e ?_); case e => exact rfl)
  | with_reducible refine My.we_tupo ?_
  | with_reducible refine My.we_lsto ?_
  | with_reducible refine My.we_int ?_
  | with_reducible refine My.we_op ?_
  | with_reducible refine My.we_cb ?_
  | with_reducible refine My.we_str ?_
  | with_reducible refine My.we_bl ?_
  | with_reducible refine My.we_non ?_
  | with_reducible refine My.we_ty ?_
  | ((with_reducible refine' My.we_varO ?e ?_); case e => exact rfl)
  | ((with_reducible refine' My.we_varV ?e ?_); case e => exact rfl)
  | with_reducible refine My.we_call1 ?_
  | with_reducible refine My.we_call2 ?_
  | with_reducible refine My.we_call3 ?_
  | with_reducible refine My.we_callQ1 ?_
  | with_reducible refine My.we_callQ2 ?_
  | with_reducible refine My.we_callQ3 ?_
  | with_reducible refine My.we_callL1o ?_
  | with_reducible refine My.we_callL2o ?_
  | with_reducible refine My.we_callL3o ?_
  | with_reducible refine My.we_chain ?_
  | with_reducible refine My.we_andV ?_
  | with_reducible refine My.we_orV ?_
  | with_reducible refine My.we_notV ?_
  | with_reducible refine My.we_if ?_
  | with_reducible refine My.we_sl ?_
  | with_reducible refine My.we_joined ?_
  | with_reducible refine My.we_join ?_
  | with_reducible refine My.we_neg ?_)
local macro_rules | `(tactic| walk_at "zS") => `(tactic| first
  | with_reducible refine My.ws_seq ?_
  | with_reducible refine My.ws_next ?_
  | ((with_reducible refine' My.ws_norm ?e ?_); case e => (dsimp only [List.set, My.slOf] <;> exact rfl))
  | with_reducible refine My.ws_asg ?_
  | ((with_reducible refine' My.ws_retO ?e ?_); case e => exact rfl)
  | with_reducible refine My.ws_ret ?_
  | with_reducible refine My.ws_if ?_
  | with_reducible refine My.ws_retN ?_
  | with_reducible refine My.ws_leave ?_
  | with_reducible refine My.ws_asgG ?_
  | with_reducible refine My.ws_brk ?_
  | with_reducible refine My.ws_cont ?_
  | ((with_reducible refine' My.ws_append ?e ?l ?_); (case e => exact rfl); case l => walk_at "pp")
  | with_reducible refine My.ws_drop ?_)
local macro_rules | `(tactic| walk_at "zA") => `(tactic| first
  | with_reducible refine My.wa_cons ?_
  | with_reducible refine My.wa_nil ?_)
local macro_rules | `(tactic| walk_at "zO") => `(tactic| first
  | with_reducible refine My.opP_add ?_
  | with_reducible refine My.opP_sub ?_
  | with_reducible refine My.opP_lt ?_
  | with_reducible refine My.opP_le ?_
  | with_reducible refine My.opP_gt ?_
  | with_reducible refine My.opP_ge ?_
  | ((with_reducible refine' My.opP_mod ?e ?_); case e => (first | decide | omega))
  | ((with_reducible refine' My.opP_fdiv ?e ?_); case e => exact ⟨by first | decide | omega, by first | decide | omega⟩)
  | ((with_reducible refine' My.opP_mul ?e ?_); case e => first | exact .inl ⟨by decide, by decide⟩ | exact .inr ⟨by decide, by decide⟩ | exact .inl ⟨by omega, by omega⟩ | exact .inr ⟨by omega, by omega⟩)
  | ((with_reducible refine' My.opP_catT ?e ?_); case e => walk_at "ct")
  | ((with_reducible refine' My.opP_repS ?e ?_); case e => exact ⟨by decide, by decide, by decide, by decide⟩)
  | ((with_reducible refine' My.opP_pow ?e ?_); case e => exact ⟨by decide, by decide, by decide⟩)
  | with_reducible refine My.opP_eqI ?_
  | with_reducible refine My.opP_neI ?_
  | with_reducible refine My.opP_eqS ?_
  | with_reducible refine My.opP_neS ?_
  | with_reducible refine My.opP_isB ?_
  | with_reducible refine My.opP_notB ?_
  | with_reducible refine My.opP_eqB ?_
  | with_reducible refine My.opP_neB ?_
  | ((with_reducible refine' My.opP_isN ?e ?_); case e => exact rfl)
  | ((with_reducible refine' My.opP_notN ?e ?_); case e => exact rfl)
  | ((with_reducible refine' My.opP_ixT ?e ?_); case e => (first | exact rfl | assumption))
  | ((with_reducible refine' My.opP_ixL ?a ?e ?_); (case a => exact rfl); case e => (first | exact rfl | assumption))
  | ((with_reducible refine' My.opP_eqD ?a ?b ?c ?d ?_); (case a => exact rfl); (case b => exact rfl); (case c => walk_at "sh"); case d => walk_at "sh")
  | ((with_reducible refine' My.opP_neD ?a ?b ?c ?d ?_); (case a => exact rfl); (case b => exact rfl); (case c => walk_at "sh"); case d => walk_at "sh")
  | ((with_reducible refine' My.opP_inD ?a ?b ?c ?d ?_); (case a => exact rfl); (case b => exact rfl); (case c => walk_at "sh"); case d => walk_at "sh")
  | ((with_reducible refine' My.opP_notInD ?a ?b ?c ?d ?_); (case a => exact rfl); (case b => exact rfl); (case c => walk_at "sh"); case d => walk_at "sh")
  | ((with_reducible refine' My.opP_inT ?a ?b ?c ?d ?_); (case a => exact rfl); (case b => exact rfl); (case c => walk_at "sh"); case d => walk_at "sh")
  | ((with_reducible refine' My.opP_notInT ?a ?b ?c ?d ?_); (case a => exact rfl); (case b => exact rfl); (case c => walk_at "sh"); case d => walk_at "sh")
  | with_reducible refine My.opP_ltS ?_
  | with_reducible refine My.opP_gtS ?_
  | with_reducible refine My.opP_leS ?_
  | with_reducible refine My.opP_geS ?_
  | with_reducible refine My.opP_inSign ?_
  | with_reducible refine My.opP_notInS1 ?_)
local macro_rules | `(tactic| walk_at "zC") => `(tactic| first
  | ((with_reducible refine' My.cbP_isB ?e ?_); case e => exact rfl)
  | ((with_reducible refine' My.cbP_isI ?e ?_); case e => exact rfl)
  | ((with_reducible refine' My.cbP_isS ?e ?_); case e => exact rfl)
  | ((with_reducible refine' My.cbP_isT ?e ?_); case e => exact rfl)
  | ((with_reducible refine' My.cbP_isL ?e ?_); case e => exact rfl)
  | ((with_reducible refine' My.cbP_lenL ?e ?_); case e => exact rfl)
  | with_reducible refine My.cbP_lenT ?_
  | with_reducible refine My.cbP_int ?_
  | with_reducible refine My.cbP_intB ?_
  | with_reducible refine My.cbP_ord ?_
  | with_reducible refine My.cbP_abs ?_
  | ((with_reducible refine' My.cbP_lenS ?e ?_); case e => walk_at "ln")
  | ((with_reducible refine' My.cbP_listL ?e ?_); case e => exact rfl)
  | with_reducible refine My.cbP_listT ?_
  | ((with_reducible refine' My.cbP_tupL ?e ?_); case e => exact rfl)
  | with_reducible refine My.cbP_tupT ?_)
local macro_rules | `(tactic| walk_at "zT") => `(tactic| first
  | with_reducible refine My.wt_test ?_
  | with_reducible refine My.wt_b ?_
  | with_reducible refine My.wt_not ?_
  | with_reducible refine My.wt_and ?_
  | with_reducible refine My.wt_or ?_
  | with_reducible refine My.wt_truR ?_
  | with_reducible refine My.wt_yes ?_)
local macro_rules | `(tactic| walk_at "zG") => `(tactic| first
  | with_reducible refine My.wg_name ?_
  | ((with_reducible refine' My.wg_tup ?e ?_); case e => exact rfl))
local macro_rules | `(tactic| walk_at "zH") => `(tactic| first
  | with_reducible refine My.wgs_cons ?_
  | with_reducible refine My.wgs_nil ?_)
local macro_rules | `(tactic| walk_at "zL") => `(tactic| first
  | ((with_reducible refine' My.slP_L ?e ?_); case e => exact rfl)
  | ((with_reducible refine' My.slP_S ?e ?_); case e => walk_at "ln")
  | with_reducible refine My.slP_T ?_)
local macro_rules | `(tactic| walk_at "zP") => `(tactic| first
  | with_reducible refine My.wo_none ?_
  | with_reducible refine My.wo_part ?_)
local macro_rules | `(tactic| walk_at "zI") => `(tactic| first
  | with_reducible refine My.wi_str ?_
  | with_reducible refine My.wi_list ?_
  | with_reducible refine My.wi_tup ?_
  | with_reducible refine My.wi_rng1 ?_
  | with_reducible refine My.wi_rng2 ?_)
local macro_rules | `(tactic| walk_at "zJ") => `(tactic| first
  | with_reducible refine My.wj_cons ?_
  | with_reducible refine My.wj_nil ?_)
local macro_rules | `(tactic| walk_at "p1") => `(tactic| first
  | ((with_reducible refine My.isWE ?_); walk_at "zE")
  | ((with_reducible refine My.isWS ?_); walk_at "zS")
  | ((with_reducible refine My.isWA ?_); walk_at "zA")
  | ((with_reducible refine My.isOp ?_); walk_at "zO")
  | ((with_reducible refine My.isCb ?_); walk_at "zC")
  | ((with_reducible refine My.isWT ?_); walk_at "zT")
  | ((with_reducible refine My.isWG ?_); walk_at "zG")
  | ((with_reducible refine My.isWGs ?_); walk_at "zH")
  | ((with_reducible refine My.isSlp ?_); walk_at "zL")
  | ((with_reducible refine My.isWO ?_); walk_at "zP")
  | ((with_reducible refine My.isWI ?_); walk_at "zI")
  | ((with_reducible refine My.isWJ ?_); walk_at "zJ"))
local macro_rules | `(tactic| walk_at "p2") => `(tactic| first | ((with_reducible refine' (Exists.intro _ (And.intro ?e ?_))); case e => exact rfl) | ((with_reducible refine' (Exists.intro _ (Exists.intro _ (And.intro ?e ?_)))); case e => exact rfl) | ((with_reducible refine' (Exists.intro _ (Exists.intro _ (Exists.intro _ (And.intro ?e ?_))))); case e => exact rfl) | (walk_at "pf") | ((with_reducible refine' (And.intro ?p ?_)); case p => walk_at "pp"))
local macro_rules | `(tactic| walk_at "px") => `(tactic| repeat (first | (walk_at "p1") | (walk_at "p2")))
local macro_rules | `(tactic| walk_at "pw") => `(tactic| ((walk_at "px"); try ((walk_at "pi") <;> (intro hh; first | (exfalso; omega) | walk_at "pw"))))
local macro_rules | `(tactic| walk_at "pp") => `(tactic| first | assumption | exact True.intro | exact rfl | exact Nat.le_of_ble_eq_true rfl | exact ⟨_, rfl⟩ | exact ⟨_, _, rfl, rfl⟩ | exact ⟨_, rfl, by assumption⟩ | exact ⟨by assumption, by assumption⟩ | exact ⟨by assumption, _, rfl⟩ | exact ⟨by assumption, by assumption, by assumption⟩ | omega | (walk_at "ln") | (walk_at "sh"))
local macro_rules | `(tactic| walk_at "ct") => `(tactic| first | exact Nat.le_of_ble_eq_true rfl | (simp only [List.length_append, List.length_cons, List.length_nil, List.length_map]; omega))
local macro_rules | `(tactic| walk_at "sh") => `(tactic| first | assumption | exact My.okx_sh (n := 8) (by assumption) | decide +kernel)
local macro_rules | `(tactic| walk_at "ln") => `(tactic| first | assumption | exact My.sz (My.okx_str (n := 8) (by assumption)).1 | exact My.sz (by assumption) | exact My.sz (by omega) | decide +kernel)
local macro_rules | `(tactic| walk_at "pr") => `(tactic| first | exact My.r1d rfl | exact My.r2d rfl | exact My.r3d rfl)
local macro_rules | `(tactic| walk_at "pi") => `(tactic| first | refine My.ifp ?_ ?_ | refine My.ifq ?_ ?_ | refine My.ifnp ?_ ?_ | refine My.ifnq ?_ ?_ | refine My.ifnb ?_ ?_ | refine My.ifnbq ?_ ?_ | refine My.ifb ?_ ?_ | refine My.ifbq ?_ ?_)
local macro_rules | `(tactic| walk_at "pf") => `(tactic| ((with_reducible refine ⟨fun hb => ?pl, fun hb => ?pr⟩); first | (case pr => (cases hb; done)) | (case pl => (cases hb; done))))
local macro_rules | `(tactic| walk_at "pn") => `(tactic| ((first | with_reducible refine' My.ws_eq ?e ?_ | with_reducible refine' My.wg_eq ?e ?_ | with_reducible refine' My.wt_eq ?e ?_); case e => (dsimp only [List.map, List.replicate, List.set, My.slOf, My.wipeS, List.cons_append, List.nil_append] <;> exact rfl)))
local macro_rules | `(tactic| walk_at "ww") => `(tactic| repeat (first | exact My.wipes_name (by decide) | exact My.wipes_nil | refine My.wipes_tup ?_ | refine My.wipes_cons ?_ ?_))
local macro_rules | `(tactic| walk_at "wk") => `(tactic| repeat (first | exact True.intro | refine ⟨.inl rfl, ?_⟩ | refine ⟨.inr rfl, ?_⟩))
namespace My
open PySem PySem.Spec PyProof.Rows L2
def topS (i : Nat) : Stmt := PySem.Challenge.pw_majordomo_k31_transactions_that_are_none.main.body.getD i (.Pass ⟨0, 0, 0, 0⟩)
abbrev s_has_plain_characters : Stmt := (topS 11)
theorem sc_has_plain_characters : FnScope ["text", "character", "code"] ["text"] (defScope s_has_plain_characters) := ⟨rfl, rfl, rfl, by decide +kernel, rfl, by decide +kernel, by decide +kernel⟩
abbrev s_is_integer_within : Stmt := (topS 12)
theorem sc_is_integer_within : FnScope ["number", "low", "high"] ["number", "low", "high"] (defScope s_is_integer_within) := ⟨rfl, rfl, rfl, by decide +kernel, rfl, by decide +kernel, by decide +kernel⟩
abbrev s_is_plain_name : Stmt := (topS 22)
theorem sc_is_plain_name : FnScope ["name", "character"] ["name"] (defScope s_is_plain_name) := ⟨rfl, rfl, rfl, by decide +kernel, rfl, by decide +kernel, by decide +kernel⟩
abbrev s_is_slot_name : Stmt := (topS 23)
theorem sc_is_slot_name : FnScope ["name"] ["name"] (defScope s_is_slot_name) := ⟨rfl, rfl, rfl, by decide +kernel, rfl, by decide +kernel, by decide +kernel⟩
abbrev s_is_text : Stmt := (topS 24)
theorem sc_is_text : FnScope ["text"] ["text"] (defScope s_is_text) := ⟨rfl, rfl, rfl, by decide +kernel, rfl, by decide +kernel, by decide +kernel⟩
abbrev s_is_count : Stmt := (topS 25)
theorem sc_is_count : FnScope ["number"] ["number"] (defScope s_is_count) := ⟨rfl, rfl, rfl, by decide +kernel, rfl, by decide +kernel, by decide +kernel⟩
abbrev s_is_zone : Stmt := (topS 26)
theorem sc_is_zone : FnScope ["zone"] ["zone"] (defScope s_is_zone) := ⟨rfl, rfl, rfl, by decide +kernel, rfl, by decide +kernel, by decide +kernel⟩
abbrev s_is_key : Stmt := (topS 27)
theorem sc_is_key : FnScope ["kind", "name"] ["kind", "name"] (defScope s_is_key) := ⟨rfl, rfl, rfl, by decide +kernel, rfl, by decide +kernel, by decide +kernel⟩
abbrev s__is_beat : Stmt := (topS 28)
theorem sc__is_beat : FnScope ["value"] ["value"] (defScope s__is_beat) := ⟨rfl, rfl, rfl, by decide +kernel, rfl, by decide +kernel, by decide +kernel⟩
abbrev s__is_drain : Stmt := (topS 29)
theorem sc__is_drain : FnScope ["value"] ["value"] (defScope s__is_drain) := ⟨rfl, rfl, rfl, by decide +kernel, rfl, by decide +kernel, by decide +kernel⟩
abbrev s__is_node : Stmt := (topS 30)
theorem sc__is_node : FnScope ["value", "size", "used", "life", "lost", "zone"] ["value"] (defScope s__is_node) := ⟨rfl, rfl, rfl, by decide +kernel, rfl, by decide +kernel, by decide +kernel⟩
abbrev s__is_note : Stmt := (topS 31)
theorem sc__is_note : FnScope ["value", "text", "owner_kind", "owner_name", "owner_born"] ["value"] (defScope s__is_note) := ⟨rfl, rfl, rfl, by decide +kernel, rfl, by decide +kernel, by decide +kernel⟩
abbrev s__is_rollout : Stmt := (topS 32)
theorem sc__is_rollout : FnScope ["value"] ["value"] (defScope s__is_rollout) := ⟨rfl, rfl, rfl, by decide +kernel, rfl, by decide +kernel, by decide +kernel⟩
abbrev s__are_open_numbers : Stmt := (topS 33)
theorem sc__are_open_numbers : FnScope ["numbers", "least", "number"] ["numbers"] (defScope s__are_open_numbers) := ⟨rfl, rfl, rfl, by decide +kernel, rfl, by decide +kernel, by decide +kernel⟩
abbrev s__is_service : Stmt := (topS 34)
theorem sc__is_service : FnScope ["value", "count", "text", "size", "gone", "zone"] ["value"] (defScope s__is_service) := ⟨rfl, rfl, rfl, by decide +kernel, rfl, by decide +kernel, by decide +kernel⟩
abbrev s__is_task : Stmt := (topS 35)
theorem sc__is_task : FnScope ["value", "service_born", "text", "size", "state", "stop", "node", "life", "zone"] ["value"] (defScope s__is_task) := ⟨rfl, rfl, rfl, by decide +kernel, rfl, by decide +kernel, by decide +kernel⟩
abbrev s_is_object : Stmt := (topS 37)
theorem sc_is_object : FnScope ["kind", "name", "value", "has_form"] ["kind", "name", "value"] (defScope s_is_object) := ⟨rfl, rfl, rfl, by decide +kernel, rfl, by decide +kernel, by decide +kernel⟩
abbrev s__is_tuple_of : Stmt := (topS 38)
theorem sc__is_tuple_of : FnScope ["value", "size"] ["value", "size"] (defScope s__is_tuple_of) := ⟨rfl, rfl, rfl, by decide +kernel, rfl, by decide +kernel, by decide +kernel⟩
abbrev s__is_condition : Stmt := (topS 39)
theorem sc__is_condition : FnScope ["condition"] ["condition"] (defScope s__is_condition) := ⟨rfl, rfl, rfl, by decide +kernel, rfl, by decide +kernel, by decide +kernel⟩
abbrev s__is_put : Stmt := (topS 40)
theorem sc__is_put : FnScope ["put"] ["put"] (defScope s__is_put) := ⟨rfl, rfl, rfl, by decide +kernel, rfl, by decide +kernel, by decide +kernel⟩
abbrev s__is_delete : Stmt := (topS 41)
theorem sc__is_delete : FnScope ["delete"] ["delete"] (defScope s__is_delete) := ⟨rfl, rfl, rfl, by decide +kernel, rfl, by decide +kernel, by decide +kernel⟩
abbrev s__are_distinct : Stmt := (topS 42)
theorem sc__are_distinct : FnScope ["keys", "seen", "key"] ["keys"] (defScope s__are_distinct) := ⟨rfl, rfl, rfl, by decide +kernel, rfl, by decide +kernel, by decide +kernel⟩
abbrev s_check_transaction : Stmt := (topS 43)
theorem sc_check_transaction : FnScope ["transaction", "part", "conditions", "puts", "deletes", "condition", "put", "delete"] ["transaction"] (defScope s_check_transaction) := ⟨rfl, rfl, rfl, by decide +kernel, rfl, by decide +kernel, by decide +kernel⟩
abbrev s__law_draws : Stmt := (topS 45)
theorem sc__law_draws : FnScope ["script", "many", "draws", "mixed", "k", "cell", "rest", "turn"] ["script", "many"] (defScope s__law_draws) := ⟨rfl, rfl, rfl, by decide +kernel, rfl, by decide +kernel, by decide +kernel⟩
abbrev s__law_name : Stmt := (topS 46)
theorem sc__law_name : FnScope ["draws", "letters", "size", "k"] ["draws"] (defScope s__law_name) := ⟨rfl, rfl, rfl, by decide +kernel, rfl, by decide +kernel, by decide +kernel⟩
abbrev s__law_text : Stmt := (topS 47)
theorem sc__law_text : FnScope ["draws", "chars", "size", "k"] ["draws"] (defScope s__law_text) := ⟨rfl, rfl, rfl, by decide +kernel, rfl, by decide +kernel, by decide +kernel⟩
abbrev s__law_zone : Stmt := (topS 48)
theorem sc__law_zone : FnScope ["draws"] ["draws"] (defScope s__law_zone) := ⟨rfl, rfl, rfl, by decide +kernel, rfl, by decide +kernel, by decide +kernel⟩
abbrev s__law_open : Stmt := (topS 49)
theorem sc__law_open : FnScope ["draw", "numbers", "rest", "k"] ["draw"] (defScope s__law_open) := ⟨rfl, rfl, rfl, by decide +kernel, rfl, by decide +kernel, by decide +kernel⟩
abbrev s__law_key : Stmt := (topS 50)
theorem sc__law_key : FnScope ["draws", "kind", "name"] ["draws"] (defScope s__law_key) := ⟨rfl, rfl, rfl, by decide +kernel, rfl, by decide +kernel, by decide +kernel⟩
abbrev s__law_worth : Stmt := (topS 51)
theorem sc__law_worth : FnScope ["kind", "draws", "text", "state"] ["kind", "draws"] (defScope s__law_worth) := ⟨rfl, rfl, rfl, by decide +kernel, rfl, by decide +kernel, by decide +kernel⟩
abbrev s__law_find : Stmt := (topS 52)
theorem sc__law_find : FnScope ["entries", "kind", "name", "entry"] ["entries", "kind", "name"] (defScope s__law_find) := ⟨rfl, rfl, rfl, by decide +kernel, rfl, by decide +kernel, by decide +kernel⟩
abbrev s__law_transaction : Stmt := (topS 58)
theorem sc__law_transaction : FnScope ["entries", "draws", "puts", "deletes", "keys", "k", "part", "kind", "name", "conditions", "found", "revision"] ["entries", "draws"] (defScope s__law_transaction) := ⟨rfl, rfl, rfl, by decide +kernel, rfl, by decide +kernel, by decide +kernel⟩
abbrev s__law_refused : Stmt := (topS 59)
theorem sc__law_refused : FnScope ["transaction", "e"] ["transaction"] (defScope s__law_refused) := ⟨rfl, rfl, rfl, by decide +kernel, rfl, by decide +kernel, by decide +kernel⟩
abbrev s__law_wrong : Stmt := (topS 60)
theorem sc__law_wrong : FnScope ["transaction", "draws", "conditions", "puts", "deletes", "extra", "wrong", "key", "one"] ["transaction", "draws"] (defScope s__law_wrong) := ⟨rfl, rfl, rfl, by decide +kernel, rfl, by decide +kernel, by decide +kernel⟩
abbrev s_law : Stmt := (topS 61)
theorem sc_law : FnScope ["script", "draws", "k", "part", "conditions", "puts", "deletes", "transaction", "wrong", "thing"] ["script"] (defScope s_law) := ⟨rfl, rfl, rfl, by decide +kernel, rfl, by decide +kernel, by decide +kernel⟩

structure TX (K : PySem.W.Frag) (mg : Str → Option Value) (w : World) where
  a_MajordomoError : Addr
  g_MajordomoError : mg "MajordomoError" = some (.ref a_MajordomoError)
  x_MajordomoError : PySem.W.excIn K a_MajordomoError [.type "ValueError", .type "Exception", .type "BaseException", .type "object"] "ValueError.__new__" = true
  k_MajordomoError : PySem.W.keepIn K (.ref a_MajordomoError) = true
  s_MajordomoError : PySem.W.subIn K (.ref a_MajordomoError) (.type "BaseException") = some true
  t_MajordomoError : PySem.W.typeIn K (.ref a_MajordomoError) = some (.type "type")
  a_CodecError : Addr
  g_CodecError : mg "CodecError" = some (.ref a_CodecError)
  x_CodecError : PySem.W.excIn K a_CodecError [.type "ValueError", .type "Exception", .type "BaseException", .type "object"] "ValueError.__new__" = true
  k_CodecError : PySem.W.keepIn K (.ref a_CodecError) = true
  s_CodecError : PySem.W.subIn K (.ref a_CodecError) (.type "BaseException") = some true
  t_CodecError : PySem.W.typeIn K (.ref a_CodecError) = some (.type "type")
  a_StoreError : Addr
  g_StoreError : mg "StoreError" = some (.ref a_StoreError)
  x_StoreError : PySem.W.excIn K a_StoreError [.type "ValueError", .type "Exception", .type "BaseException", .type "object"] "ValueError.__new__" = true
  k_StoreError : PySem.W.keepIn K (.ref a_StoreError) = true
  s_StoreError : PySem.W.subIn K (.ref a_StoreError) (.type "BaseException") = some true
  t_StoreError : PySem.W.typeIn K (.ref a_StoreError) = some (.type "type")
  a_BadTransaction : Addr
  g_BadTransaction : mg "BadTransaction" = some (.ref a_BadTransaction)
  x_BadTransaction : PySem.W.excIn K a_BadTransaction [.type "ValueError", .type "Exception", .type "BaseException", .type "object"] "ValueError.__new__" = true
  k_BadTransaction : PySem.W.keepIn K (.ref a_BadTransaction) = true
  s_BadTransaction : PySem.W.subIn K (.ref a_BadTransaction) (.type "BaseException") = some true
  t_BadTransaction : PySem.W.typeIn K (.ref a_BadTransaction) = some (.type "type")
  ee_BadTransaction : PySem.W.exmOne K (.ref a_BadTransaction) (.ref a_BadTransaction) = some true
  a_TooNew : Addr
  g_TooNew : mg "TooNew" = some (.ref a_TooNew)
  x_TooNew : PySem.W.excIn K a_TooNew [.type "ValueError", .type "Exception", .type "BaseException", .type "object"] "ValueError.__new__" = true
  k_TooNew : PySem.W.keepIn K (.ref a_TooNew) = true
  s_TooNew : PySem.W.subIn K (.ref a_TooNew) (.type "BaseException") = some true
  t_TooNew : PySem.W.typeIn K (.ref a_TooNew) = some (.type "type")
  em_StoreError_BadTransaction : PySem.W.exmOne K (.ref a_BadTransaction) (.ref a_StoreError) = some true
  X_BadTransaction : ExcC K a_BadTransaction
  y_BadTransaction_BadTransaction : PySem.W.kitOne K (.ref a_BadTransaction) (.ref a_BadTransaction) = some true
  y_BadTransaction_TooNew : PySem.W.kitOne K (.ref a_BadTransaction) (.ref a_TooNew) = some false
  y_BadTransaction_CodecError : PySem.W.kitOne K (.ref a_BadTransaction) (.ref a_CodecError) = some false
  a_has_plain_characters : Addr
  d_has_plain_characters : FuncData
  F_has_plain_characters : Fun K "has_plain_characters" "has_plain_characters" s_has_plain_characters a_has_plain_characters d_has_plain_characters
  b_has_plain_characters : Binds K d_has_plain_characters ["text"] []
  g_has_plain_characters : mg "has_plain_characters" = some (.ref a_has_plain_characters)
  a_is_integer_within : Addr
  d_is_integer_within : FuncData
  F_is_integer_within : Fun K "is_integer_within" "is_integer_within" s_is_integer_within a_is_integer_within d_is_integer_within
  b_is_integer_within : Binds K d_is_integer_within ["number", "low", "high"] []
  g_is_integer_within : mg "is_integer_within" = some (.ref a_is_integer_within)
  a_is_plain_name : Addr
  d_is_plain_name : FuncData
  F_is_plain_name : Fun K "is_plain_name" "is_plain_name" s_is_plain_name a_is_plain_name d_is_plain_name
  b_is_plain_name : Binds K d_is_plain_name ["name"] []
  g_is_plain_name : mg "is_plain_name" = some (.ref a_is_plain_name)
  a_is_slot_name : Addr
  d_is_slot_name : FuncData
  F_is_slot_name : Fun K "is_slot_name" "is_slot_name" s_is_slot_name a_is_slot_name d_is_slot_name
  b_is_slot_name : Binds K d_is_slot_name ["name"] []
  g_is_slot_name : mg "is_slot_name" = some (.ref a_is_slot_name)
  a_is_text : Addr
  d_is_text : FuncData
  F_is_text : Fun K "is_text" "is_text" s_is_text a_is_text d_is_text
  b_is_text : Binds K d_is_text ["text"] []
  g_is_text : mg "is_text" = some (.ref a_is_text)
  a_is_count : Addr
  d_is_count : FuncData
  F_is_count : Fun K "is_count" "is_count" s_is_count a_is_count d_is_count
  b_is_count : Binds K d_is_count ["number"] []
  g_is_count : mg "is_count" = some (.ref a_is_count)
  a_is_zone : Addr
  d_is_zone : FuncData
  F_is_zone : Fun K "is_zone" "is_zone" s_is_zone a_is_zone d_is_zone
  b_is_zone : Binds K d_is_zone ["zone"] []
  g_is_zone : mg "is_zone" = some (.ref a_is_zone)
  a_is_key : Addr
  d_is_key : FuncData
  F_is_key : Fun K "is_key" "is_key" s_is_key a_is_key d_is_key
  b_is_key : Binds K d_is_key ["kind", "name"] []
  g_is_key : mg "is_key" = some (.ref a_is_key)
  a__is_beat : Addr
  d__is_beat : FuncData
  F__is_beat : Fun K "_is_beat" "_is_beat" s__is_beat a__is_beat d__is_beat
  b__is_beat : Binds K d__is_beat ["value"] []
  g__is_beat : mg "_is_beat" = some (.ref a__is_beat)
  a__is_drain : Addr
  d__is_drain : FuncData
  F__is_drain : Fun K "_is_drain" "_is_drain" s__is_drain a__is_drain d__is_drain
  b__is_drain : Binds K d__is_drain ["value"] []
  g__is_drain : mg "_is_drain" = some (.ref a__is_drain)
  a__is_node : Addr
  d__is_node : FuncData
  F__is_node : Fun K "_is_node" "_is_node" s__is_node a__is_node d__is_node
  b__is_node : Binds K d__is_node ["value"] []
  g__is_node : mg "_is_node" = some (.ref a__is_node)
  a__is_note : Addr
  d__is_note : FuncData
  F__is_note : Fun K "_is_note" "_is_note" s__is_note a__is_note d__is_note
  b__is_note : Binds K d__is_note ["value"] []
  g__is_note : mg "_is_note" = some (.ref a__is_note)
  a__is_rollout : Addr
  d__is_rollout : FuncData
  F__is_rollout : Fun K "_is_rollout" "_is_rollout" s__is_rollout a__is_rollout d__is_rollout
  b__is_rollout : Binds K d__is_rollout ["value"] []
  g__is_rollout : mg "_is_rollout" = some (.ref a__is_rollout)
  a__are_open_numbers : Addr
  d__are_open_numbers : FuncData
  F__are_open_numbers : Fun K "_are_open_numbers" "_are_open_numbers" s__are_open_numbers a__are_open_numbers d__are_open_numbers
  b__are_open_numbers : Binds K d__are_open_numbers ["numbers"] []
  g__are_open_numbers : mg "_are_open_numbers" = some (.ref a__are_open_numbers)
  a__is_service : Addr
  d__is_service : FuncData
  F__is_service : Fun K "_is_service" "_is_service" s__is_service a__is_service d__is_service
  b__is_service : Binds K d__is_service ["value"] []
  g__is_service : mg "_is_service" = some (.ref a__is_service)
  a__is_task : Addr
  d__is_task : FuncData
  F__is_task : Fun K "_is_task" "_is_task" s__is_task a__is_task d__is_task
  b__is_task : Binds K d__is_task ["value"] []
  g__is_task : mg "_is_task" = some (.ref a__is_task)
  a_is_object : Addr
  d_is_object : FuncData
  F_is_object : Fun K "is_object" "is_object" s_is_object a_is_object d_is_object
  b_is_object : Binds K d_is_object ["kind", "name", "value"] []
  g_is_object : mg "is_object" = some (.ref a_is_object)
  a__is_tuple_of : Addr
  d__is_tuple_of : FuncData
  F__is_tuple_of : Fun K "_is_tuple_of" "_is_tuple_of" s__is_tuple_of a__is_tuple_of d__is_tuple_of
  b__is_tuple_of : Binds K d__is_tuple_of ["value", "size"] []
  g__is_tuple_of : mg "_is_tuple_of" = some (.ref a__is_tuple_of)
  a__is_condition : Addr
  d__is_condition : FuncData
  F__is_condition : Fun K "_is_condition" "_is_condition" s__is_condition a__is_condition d__is_condition
  b__is_condition : Binds K d__is_condition ["condition"] []
  g__is_condition : mg "_is_condition" = some (.ref a__is_condition)
  a__is_put : Addr
  d__is_put : FuncData
  F__is_put : Fun K "_is_put" "_is_put" s__is_put a__is_put d__is_put
  b__is_put : Binds K d__is_put ["put"] []
  g__is_put : mg "_is_put" = some (.ref a__is_put)
  a__is_delete : Addr
  d__is_delete : FuncData
  F__is_delete : Fun K "_is_delete" "_is_delete" s__is_delete a__is_delete d__is_delete
  b__is_delete : Binds K d__is_delete ["delete"] []
  g__is_delete : mg "_is_delete" = some (.ref a__is_delete)
  a__are_distinct : Addr
  d__are_distinct : FuncData
  F__are_distinct : Fun K "_are_distinct" "_are_distinct" s__are_distinct a__are_distinct d__are_distinct
  b__are_distinct : Binds K d__are_distinct ["keys"] []
  g__are_distinct : mg "_are_distinct" = some (.ref a__are_distinct)
  a_check_transaction : Addr
  d_check_transaction : FuncData
  F_check_transaction : Fun K "check_transaction" "check_transaction" s_check_transaction a_check_transaction d_check_transaction
  b_check_transaction : Binds K d_check_transaction ["transaction"] []
  g_check_transaction : mg "check_transaction" = some (.ref a_check_transaction)
  a__law_draws : Addr
  d__law_draws : FuncData
  F__law_draws : Fun K "_law_draws" "_law_draws" s__law_draws a__law_draws d__law_draws
  b__law_draws : Binds K d__law_draws ["script", "many"] []
  g__law_draws : mg "_law_draws" = some (.ref a__law_draws)
  a__law_name : Addr
  d__law_name : FuncData
  F__law_name : Fun K "_law_name" "_law_name" s__law_name a__law_name d__law_name
  b__law_name : Binds K d__law_name ["draws"] []
  g__law_name : mg "_law_name" = some (.ref a__law_name)
  a__law_text : Addr
  d__law_text : FuncData
  F__law_text : Fun K "_law_text" "_law_text" s__law_text a__law_text d__law_text
  b__law_text : Binds K d__law_text ["draws"] []
  g__law_text : mg "_law_text" = some (.ref a__law_text)
  a__law_zone : Addr
  d__law_zone : FuncData
  F__law_zone : Fun K "_law_zone" "_law_zone" s__law_zone a__law_zone d__law_zone
  b__law_zone : Binds K d__law_zone ["draws"] []
  g__law_zone : mg "_law_zone" = some (.ref a__law_zone)
  a__law_open : Addr
  d__law_open : FuncData
  F__law_open : Fun K "_law_open" "_law_open" s__law_open a__law_open d__law_open
  b__law_open : Binds K d__law_open ["draw"] []
  g__law_open : mg "_law_open" = some (.ref a__law_open)
  a__law_key : Addr
  d__law_key : FuncData
  F__law_key : Fun K "_law_key" "_law_key" s__law_key a__law_key d__law_key
  b__law_key : Binds K d__law_key ["draws"] []
  g__law_key : mg "_law_key" = some (.ref a__law_key)
  a__law_worth : Addr
  d__law_worth : FuncData
  F__law_worth : Fun K "_law_worth" "_law_worth" s__law_worth a__law_worth d__law_worth
  b__law_worth : Binds K d__law_worth ["kind", "draws"] []
  g__law_worth : mg "_law_worth" = some (.ref a__law_worth)
  a__law_find : Addr
  d__law_find : FuncData
  F__law_find : Fun K "_law_find" "_law_find" s__law_find a__law_find d__law_find
  b__law_find : Binds K d__law_find ["entries", "kind", "name"] []
  g__law_find : mg "_law_find" = some (.ref a__law_find)
  a__law_transaction : Addr
  d__law_transaction : FuncData
  F__law_transaction : Fun K "_law_transaction" "_law_transaction" s__law_transaction a__law_transaction d__law_transaction
  b__law_transaction : Binds K d__law_transaction ["entries", "draws"] []
  g__law_transaction : mg "_law_transaction" = some (.ref a__law_transaction)
  a__law_refused : Addr
  d__law_refused : FuncData
  F__law_refused : Fun K "_law_refused" "_law_refused" s__law_refused a__law_refused d__law_refused
  b__law_refused : Binds K d__law_refused ["transaction"] []
  g__law_refused : mg "_law_refused" = some (.ref a__law_refused)
  a__law_wrong : Addr
  d__law_wrong : FuncData
  F__law_wrong : Fun K "_law_wrong" "_law_wrong" s__law_wrong a__law_wrong d__law_wrong
  b__law_wrong : Binds K d__law_wrong ["transaction", "draws"] []
  g__law_wrong : mg "_law_wrong" = some (.ref a__law_wrong)
  a_law : Addr
  d_law : FuncData
  F_law : Fun K "law" "law" s_law a_law d_law
  b_law : Binds K d_law ["script"] []
  g_law : mg "law" = some (.ref a_law)
  t_SPACE : Tok
  c_SPACE : mg "SPACE" = some (.int 32 t_SPACE)
  t_PERCENT : Tok
  c_PERCENT : mg "PERCENT" = some (.int 37 t_PERCENT)
  t_TILDE : Tok
  c_TILDE : mg "TILDE" = some (.int 126 t_TILDE)
  t_DIGITS : Tok
  c_DIGITS : mg "DIGITS" = some (.str "0123456789" t_DIGITS)
  ca_KINDS : Addr
  c_KINDS : mg "KINDS" = some (.ref ca_KINDS)
  q_KINDS : ∀ H, SqT K H ca_KINDS [(.str "beat"), (.str "drain"), (.str "node"), (.str "note"), (.str "rollout"), (.str "service"), (.str "task")]
  ca_STATES : Addr
  c_STATES : mg "STATES" = some (.ref ca_STATES)
  q_STATES : ∀ H, SqT K H ca_STATES [(.str "new"), (.str "bound"), (.str "running"), (.str "ended")]
  t_NAME_CHARACTERS : Tok
  c_NAME_CHARACTERS : mg "NAME_CHARACTERS" = some (.str "abcdefghijklmnopqrstuvwxyz0123456789" t_NAME_CHARACTERS)
  t_MOST_NAME : Tok
  c_MOST_NAME : mg "MOST_NAME" = some (.int 12 t_MOST_NAME)
  t_MOST_TEXT : Tok
  c_MOST_TEXT : mg "MOST_TEXT" = some (.int 40 t_MOST_TEXT)
  t_MOST_COUNT : Tok
  c_MOST_COUNT : mg "MOST_COUNT" = some (.int 1000000000000 t_MOST_COUNT)
  t_MOST_NUMBER : Tok
  c_MOST_NUMBER : mg "MOST_NUMBER" = some (.int 9 t_MOST_NUMBER)
  t_MOST_MEMBERS : Tok
  c_MOST_MEMBERS : mg "MOST_MEMBERS" = some (.int 12 t_MOST_MEMBERS)
  ca_VALUE_FORMS : Addr
  c_VALUE_FORMS : mg "VALUE_FORMS" = some (.ref ca_VALUE_FORMS)
  de_VALUE_FORMS : Array DictEntry
  dn_VALUE_FORMS : Nat
  D_VALUE_FORMS : KDict K w ca_VALUE_FORMS de_VALUE_FORMS dn_VALUE_FORMS
  j_VALUE_FORMS_beat : PySem.W.nsIn K ca_VALUE_FORMS "beat" = some (some (.ref a__is_beat))
  j_VALUE_FORMS_drain : PySem.W.nsIn K ca_VALUE_FORMS "drain" = some (some (.ref a__is_drain))
  j_VALUE_FORMS_node : PySem.W.nsIn K ca_VALUE_FORMS "node" = some (some (.ref a__is_node))
  j_VALUE_FORMS_note : PySem.W.nsIn K ca_VALUE_FORMS "note" = some (some (.ref a__is_note))
  j_VALUE_FORMS_rollout : PySem.W.nsIn K ca_VALUE_FORMS "rollout" = some (some (.ref a__is_rollout))
  j_VALUE_FORMS_service : PySem.W.nsIn K ca_VALUE_FORMS "service" = some (some (.ref a__is_service))
  j_VALUE_FORMS_task : PySem.W.nsIn K ca_VALUE_FORMS "task" = some (some (.ref a__is_task))
  n_isinstance : mg "isinstance" = none
  n_int : mg "int" = none
  n_bool : mg "bool" = none
  n_len : mg "len" = none
  n_str : mg "str" = none
  n_all : mg "all" = none
  n_ord : mg "ord" = none
  n_tuple : mg "tuple" = none
  n_range : mg "range" = none
  n_abs : mg "abs" = none
  n_list : mg "list" = none


/-! forms of data -/
def intIn (x : PyData) (lo hi : Int) : Bool := match x with
  | .int i => decide (lo ≤ i) && decide (i ≤ hi)
  | _ => false
def intOf : PyData → Int
  | .int i => i
  | _ => 0
def nameChs : Str := "abcdefghijklmnopqrstuvwxyz0123456789"
def digChs : Str := "0123456789"
def isNm : PyData → Bool
  | .str z => decide (1 ≤ z.length) && decide (z.length ≤ 12) && z.cps.toList.all fun c => decide (c ∈ nameChs.cps.toList)
  | _ => false
def plainCh (c : Nat) : Bool := decide (32 ≤ c) && decide (c ≤ 126) && !decide (c = 37)
def isTx : PyData → Bool
  | .str z => decide (z.length ≤ 40) && z.cps.toList.all plainCh
  | _ => false
def isCt (x : PyData) : Bool := intIn x 0 1000000000000
def isZo (x : PyData) : Bool := x.eqv (.str "") || isNm x
def isSl : PyData → Bool
  | .str z => decide (3 ≤ z.length) && (decide (z.cps.toList.getD (z.length - 1) 0 ∈ digChs.cps.toList) && (decide (z.cps.toList.getD (z.length - 2) 0 = 47) && isNm (.str (cutS z none (some (-2))))))
  | _ => false
def kindsD : List PyData := [.str "beat", .str "drain", .str "node", .str "note", .str "rollout", .str "service", .str "task"]
def statesD : List PyData := [.str "new", .str "bound", .str "running", .str "ended"]
def isKy (k n : PyData) : Bool := if k.eqv (.str "task") then isSl n else (kindsD.any fun z => z.eqv k) && isNm n
theorem z_len (z : Str) : z.cps.toList.length = z.length := by rw [Array.length_toList]; rfl
theorem cps_ix {z : Str} {j : Nat} (h1 : 1 ≤ j) (h2 : j ≤ z.length) : atI z.cps.toList (-(j : Int)) = some (z.cps.toList.getD (z.length - j) 0) := by
  have hl := z_len z
  unfold atI ixN
  rw [hl]
  rw [if_neg (by omega), if_pos (by omega)]
  have e : (-(j : Int) + (z.length : Int)).toNat = z.length - j := by omega
  rw [e]
  show z.cps.toList[z.length - j]? = _
  rw [List.getD_eq_getElem?_getD, List.getElem?_eq_getElem (by omega)]
  rfl
section
variable {P : Program} {w : World} {K : PySem.W.Frag} {mg : Str → Option Value} {base : Heap}
theorem ok_is_integer_within (T : TX K mg w) : FnOk P w K mg base CX0 1 T.a_is_integer_within T.d_is_integer_within ["number", "low", "high"] (spP K (P3 fun _ l h => ∃ lo hi, l = .int lo ∧ h = .int hi) (R3 fun x l h => .bool (intIn x (intOf l) (intOf h)))) := by
  refine okP T.F_is_integer_within sc_is_integer_within 0 rfl P3.len fun cdv A outer s H E hr => ⟨_, (pss_cons (ps_if (PW.pt (pw_or (pt_val (pe_callB (callK_isi (K := K) rfl) (by rfl) T.n_isinstance (by decide +kernel) (pa_cons (pv 0) (pa_cons (pe_bltn (v := .ty "bool") (u := .type "bool") (by rfl) T.n_bool (by decide +kernel) rfl) pa_nil)))) (pw_or1 (pt_not (pt_val (pe_callB (callK_isi (K := K) rfl) (by rfl) T.n_isinstance (by decide +kernel) (pa_cons (pv 0) (pa_cons (pe_bltn (v := .ty "int") (u := .type "int") (by rfl) T.n_int (by decide +kernel) rfl) pa_nil)))))))) (pss_one (ps_ret pe_bl)) pss_nil)
      (pss_one (ps_ret (pe_chain op_le op_le (pv 1) (pv 0) (pv 2))))), fun ds hd => ?_⟩
  obtain ⟨x, l, h, rfl, lo, hi, rfl, rfl⟩ := hd
  walk_at "pn"
  cases x
  case int i =>
    walk_at "px"
    walk_at "pi"
    · intro hh
      walk_at "px"
      refine r3d ?_
      show _ = PyData.bool (decide (lo ≤ i) && decide (i ≤ hi))
      rw [decide_eq_true hh, Bool.true_and]
    · intro hh
      refine r3d ?_
      show _ = PyData.bool (decide (lo ≤ i) && decide (i ≤ hi))
      rw [decide_eq_false hh, Bool.false_and]
  all_goals walk_at "px"
  all_goals walk_at "pr"
theorem ok_is_count (T : TX K mg w) : FnOk P w K mg base CX0 2 T.a_is_count T.d_is_count ["number"] (spP K (P1 fun _ => True) (R1 fun x => .bool (isCt x))) := by
  refine okP T.F_is_count sc_is_count 0 rfl P1.len fun cdv A outer s H E hr => ⟨_, (pss_one (ps_ret (pe_call (ok_is_integer_within T) (hr.mono (by decide)) (by rfl) T.g_is_integer_within T.F_is_integer_within.kp T.b_is_integer_within .nil pass0 (pa_cons (pv 0) (pa_cons pe_int (pa_cons (pe_glob (v := .int 1000000000000) (by rfl) T.c_MOST_COUNT ⟨_, rfl⟩) pa_nil)))))), fun ds hd => ?_⟩
  obtain ⟨x, rfl, _⟩ := hd
  walk_at "pn"
  walk_at "px"
  walk_at "pr"
theorem ok_is_plain_name (T : TX K mg w) : FnOk P w K mg base CX0 1 T.a_is_plain_name T.d_is_plain_name ["name"] (spP K (P1 fun x => okx 8 x = true) (R1 fun x => .bool (isNm x))) := by
  refine okP T.F_is_plain_name sc_is_plain_name 1 rfl P1.len fun cdv A outer s H E hr => ⟨_, (pss_cons (ps_if (PW.pt (pw_or (pt_not (pt_val (pe_callB (callK_isi (K := K) rfl) (by rfl) T.n_isinstance (by decide +kernel) (pa_cons (pv 0) (pa_cons (pe_bltn (v := .ty "str") (u := .type "str") (by rfl) T.n_str (by decide +kernel) rfl) pa_nil))))) (pw_or1 (pt_not (pt_chain op_le op_le pe_int (pe_callB call_lenS (by rfl) T.n_len PySem.boot_len (pa_cons (pv 0) pa_nil)) (pe_glob (v := .int 12) (by rfl) T.c_MOST_NAME ⟨_, rfl⟩)))))) (pss_one (ps_ret pe_bl)) pss_nil)
      (pss_one (ps_ret (pe_callB (callK_all (K := K) rfl rfl) (by rfl) T.n_all (by decide +kernel) (pa_cons (pe_lc (own := [("character", 1)]) (g := gName 1) (tt := tYes) (by rfl) sc_is_plain_name.nd (pi_str (pv 0)) (blkOk_by (own := [("character", 1)]) (N := ["name", "character"]) (sc := defScope s_is_plain_name) (by decide +kernel)) (fun _ _ _ _ _ => pg_name (i := 1) sc_is_plain_name.nd rfl (Or.inl rfl)) (fun _ _ _ _ _ => pts_nil) (fun _ _ _ _ _ => (pe_cmpR op_inS (pv 1) (pe_glob (v := .str "abcdefghijklmnopqrstuvwxyz0123456789") (by rfl) T.c_NAME_CHARACTERS ⟨_, rfl⟩) rfl))) pa_nil))))), fun ds hd => ?_⟩
  obtain ⟨x, rfl, hx⟩ := hd
  walk_at "pn"
  cases x
  case str z =>
    walk_at "px"
    walk_at "pi"
    · intro h1
      walk_at "px"
      walk_at "pi"
      · intro h2
        walk_at "px"
        refine r1d ?_
        show _ = PyData.bool (decide (1 ≤ z.length) && decide (z.length ≤ 12) && _)
        rw [decide_eq_false (show ¬ z.length ≤ 12 by omega), Bool.and_false, Bool.false_and]
      · intro h2
        walk_at "px"
        refine we_lcM (by walk_at "ww") rfl ?_
        walk_at "px"
        refine ⟨fun x => .bool (decide (chOf x ∈ nameChs.cps.toList)), by rw [sgn_len]; omega, fun x hx => ?_, ?_⟩
        · obtain ⟨c, rfl, hc⟩ := signs_mem hx
          walk_at "pn"
          walk_at "px"
          exact rfl
        · walk_at "px"
          refine cbP_all (bs := z.cps.toList.map fun c => decide (c ∈ nameChs.cps.toList)) (by rw [signs_map, List.map_map]; rfl) (r1d ?_)
          rw [all_map_id]
          show _ = PyData.bool (decide (1 ≤ z.length) && decide (z.length ≤ 12) && _)
          rw [decide_eq_true (show z.length ≤ 12 by omega), decide_eq_true (show 1 ≤ z.length by omega)]
          rfl
    · intro h1
      walk_at "px"
      refine r1d ?_
      show _ = PyData.bool (decide (1 ≤ z.length) && decide (z.length ≤ 12) && _)
      rw [decide_eq_false (show ¬ 1 ≤ z.length by omega), Bool.false_and, Bool.false_and]
  all_goals walk_at "px"
  all_goals walk_at "pr"
end
section
variable {P : Program} {w : World} {K : PySem.W.Frag} {mg : Str → Option Value} {base : Heap}
theorem ok_has_plain_characters (T : TX K mg w) : FnOk P w K mg base CX0 1 T.a_has_plain_characters T.d_has_plain_characters ["text"] (spP K (P1 fun x => ∃ z, x = .str z ∧ z.length ≤ 100000) (R1 fun x => .bool (match x with | .str z => z.cps.toList.all plainCh | _ => false))) := by
  refine okP T.F_has_plain_characters sc_has_plain_characters 2 rfl P1.len fun cdv A outer s H E hr => ⟨_, (pss_cons (ps_for PassesOwn.never rfl (pi_str (pv 0)) (pg_name (i := 1) sc_has_plain_characters.nd rfl (Or.inl rfl))
        (pss_cons (ps_set (i := 2) sc_has_plain_characters.nd rfl (Or.inl rfl) (pe_callB call_ordN (by rfl) T.n_ord (by decide +kernel) (pa_cons (pv 1) pa_nil)))
        (pss_one (ps_if (PW.pt (pw_or (pt_cmpR op_lt (pv 2) (pe_glob (v := .int 32) (by rfl) T.c_SPACE ⟨_, rfl⟩) (nomark _)) (pw_or (pt_cmpR op_gt (pv 2) (pe_glob (v := .int 126) (by rfl) T.c_TILDE ⟨_, rfl⟩) (nomark _)) (pw_or1 (pt_cmpR op_eq (pv 2) (pe_glob (v := .int 37) (by rfl) T.c_PERCENT ⟨_, rfl⟩) (nomark _)))))) (pss_one (ps_ret pe_bl)) pss_nil))))
      (pss_one (ps_ret pe_bl))), fun ds hd => ?_⟩
  obtain ⟨x, rfl, z, rfl, hz⟩ := hd
  walk_at "pn"
  walk_at "px"
  refine ws_for ?_
  walk_at "px"
  refine ⟨Unit, fun _ => [.d (.str z), .u, .u], fun _ => (), fun i _ => (z.cps.toList.take i).all plainCh = true, nxt () ⟨.inl rfl, .inl rfl, .inl rfl, True.intro⟩ rfl rfl, fun i x _ hx hI => ?_, fun _ hI => ?_⟩
  · obtain ⟨c, rfl, hc⟩ := signs_mem (List.mem_of_getElem? hx)
    have hc' : z.cps.toList[i]? = some c := by
      unfold signs at hx
      rw [List.getElem?_map] at hx
      cases h : z.cps.toList[i]? with
      | none => rw [h] at hx; cases hx
      | some d => rw [h] at hx; cases hx; rfl
    walk_at "px"
    have hf : plainCh c = false → z.cps.toList.all plainCh = false := fun h => by
      rw [Bool.eq_false_iff]
      intro h2
      rw [List.all_eq_true] at h2
      rw [h2 c hc] at h
      cases h
    have ht : plainCh c = true → (z.cps.toList.take (i + 1)).all plainCh = true := fun h => by
      rw [take_succ_app hc', List.all_append, hI]
      simp [h]
    walk_at "pi"
    · intro h1
      walk_at "px"
      walk_at "pi"
      · intro h2
        walk_at "px"
        walk_at "pi"
        · intro h3
          walk_at "px"
          refine r1d ?_
          exact congrArg PyData.bool (hf (by unfold plainCh; simp; omega)).symm
        · intro h3
          walk_at "px"
          exact nxt () (by walk_at "wk") rfl (ht (by unfold plainCh; simp; omega))
      · intro h2
        walk_at "px"
        refine r1d ?_
        exact congrArg PyData.bool (hf (by unfold plainCh; simp; omega)).symm
    · intro h1
      walk_at "px"
      refine r1d ?_
      exact congrArg PyData.bool (hf (by unfold plainCh; simp; omega)).symm
  · walk_at "px"
    refine r1d ?_
    have hI' : (z.cps.toList.take (signs z).length).all plainCh = true := hI
    rw [sgn_len, List.take_of_length_le (by rw [z_len]; exact Nat.le_refl _)] at hI'
    exact congrArg PyData.bool hI'.symm
theorem ok_is_text (T : TX K mg w) : FnOk P w K mg base CX0 2 T.a_is_text T.d_is_text ["text"] (spP K (P1 fun x => okx 8 x = true) (R1 fun x => .bool (isTx x))) := by
  refine okP T.F_is_text sc_is_text 0 rfl P1.len fun cdv A outer s H E hr => ⟨_, (pss_one (ps_ret (pe_and (pe_callB (callK_isi (K := K) rfl) (by rfl) T.n_isinstance (by decide +kernel) (pa_cons (pv 0) (pa_cons (pe_bltn (v := .ty "str") (u := .type "str") (by rfl) T.n_str (by decide +kernel) rfl) pa_nil))) (pe_and (pe_cmpR op_le (pe_callB call_lenS (by rfl) T.n_len PySem.boot_len (pa_cons (pv 0) pa_nil)) (pe_glob (v := .int 40) (by rfl) T.c_MOST_TEXT ⟨_, rfl⟩) (nomark _)) (pe_one (pe_call (ok_has_plain_characters T) (hr.mono (by decide)) (by rfl) T.g_has_plain_characters T.F_has_plain_characters.kp T.b_has_plain_characters .nil pass0 (pa_cons (pv 0) pa_nil))))))), fun ds hd => ?_⟩
  obtain ⟨x, rfl, hx⟩ := hd
  walk_at "pn"
  cases x
  case str z =>
    have hz := (okx_str hx).1
    walk_at "px"
    walk_at "pi"
    · intro h1
      walk_at "px"
      refine r1d ?_
      show _ = PyData.bool (decide (z.length ≤ 40) && z.cps.toList.all plainCh)
      rw [decide_eq_true (show z.length ≤ 40 by omega), Bool.true_and]
    · intro h1
      refine r1d ?_
      show _ = PyData.bool (decide (z.length ≤ 40) && z.cps.toList.all plainCh)
      rw [decide_eq_false (show ¬ z.length ≤ 40 by omega), Bool.false_and]
  all_goals walk_at "px"
  all_goals walk_at "pr"
theorem ok_is_zone (T : TX K mg w) : FnOk P w K mg base CX0 2 T.a_is_zone T.d_is_zone ["zone"] (spP K (P1 fun x => okx 8 x = true) (R1 fun x => .bool (isZo x))) := by
  refine okP T.F_is_zone sc_is_zone 0 rfl P1.len fun cdv A outer s H E hr => ⟨_, (pss_one (ps_ret (pe_or (pe_cmpR (opK_eqD (K := K) rfl hr.units) (pv 0) pe_str (nomark _)) (pe_one (pe_call (ok_is_plain_name T) (hr.mono (by decide)) (by rfl) T.g_is_plain_name T.F_is_plain_name.kp T.b_is_plain_name .nil pass0 (pa_cons (pv 0) pa_nil)))))), fun ds hd => ?_⟩
  obtain ⟨x, rfl, hx⟩ := hd
  walk_at "pn"
  walk_at "px"
  walk_at "pi"
  · intro h1
    walk_at "px"
    refine r1d ?_
    unfold isZo
    rw [h1, Bool.false_or]
  · intro h1
    refine r1d ?_
    unfold isZo
    rw [h1, Bool.true_or]
theorem sign47 {c : Nat} : decide ((⟨#[c]⟩ : Str) = "/") = decide (c = 47) := by
  rw [Bool.eq_iff_iff, decide_eq_true_iff, decide_eq_true_iff]
  have : ("/" : Str) = ⟨#[47]⟩ := by decide +kernel
  rw [this]
  constructor
  · intro h; cases h; rfl
  · intro h; rw [h]
theorem okx_cut {n : Nat} {z : Str} {lo hi : Option Int} (h : okx n (.str z) = true) : okx n (.str (cutS z lo hi)) = true := by
  obtain ⟨h1, h2⟩ := okx_str h
  unfold okx
  rw [Bool.and_eq_true]
  refine ⟨?_, decide_eq_true ?_⟩
  · unfold PyData.strOk at h2 ⊢
    unfold cutS
    rw [← Array.all_toList, List.all_eq_true] at h2 ⊢
    intro c hc
    refine h2 c ?_
    exact List.mem_of_mem_drop (List.mem_of_mem_take (by simpa using hc))
  · unfold cutS
    have h3 : z.cps.size ≤ 100000 := h1
    show (Array.size _) ≤ _
    simp
    omega
theorem ok_is_slot_name (T : TX K mg w) : FnOk P w K mg base CX0 2 T.a_is_slot_name T.d_is_slot_name ["name"] (spP K (P1 fun x => okx 8 x = true) (R1 fun x => .bool (isSl x))) := by
  refine okP T.F_is_slot_name sc_is_slot_name 0 rfl P1.len fun cdv A outer s H E hr => ⟨_, (pss_cons (ps_if (PW.pt (pw_or (pt_not (pt_val (pe_callB (callK_isi (K := K) rfl) (by rfl) T.n_isinstance (by decide +kernel) (pa_cons (pv 0) (pa_cons (pe_bltn (v := .ty "str") (u := .type "str") (by rfl) T.n_str (by decide +kernel) rfl) pa_nil))))) (pw_or1 (pt_cmpR op_lt (pe_callB call_lenS (by rfl) T.n_len PySem.boot_len (pa_cons (pv 0) pa_nil)) pe_int (nomark _))))) (pss_one (ps_ret pe_bl)) pss_nil)
      (pss_one (ps_ret (pe_and (pe_cmpR op_inS (pe_ix ix_str (pv 0) (pe_un un_neg pe_int) (fun _ _ => rfl)) (pe_glob (v := .str "0123456789") (by rfl) T.c_DIGITS ⟨_, rfl⟩) rfl) (pe_and (pe_cmpR op_eq (pe_ix ix_str (pv 0) (pe_un un_neg pe_int) (fun _ _ => rfl)) pe_str (nomark _)) (pe_one (pe_call (ok_is_plain_name T) (hr.mono (by decide)) (by rfl) T.g_is_plain_name T.F_is_plain_name.kp T.b_is_plain_name .nil pass0 (pa_cons (pe_slice sl_str (pv 0) po_none (po_some (pe_un un_neg pe_int))) pa_nil)))))))), fun ds hd => ?_⟩
  obtain ⟨x, rfl, hx⟩ := hd
  walk_at "pn"
  cases x
  case str z =>
    have hz := (okx_str hx).1
    walk_at "px"
    walk_at "pi"
    · intro h1
      walk_at "px"
      refine r1d ?_
      show _ = PyData.bool (decide (3 ≤ z.length) && _)
      rw [decide_eq_false (show ¬ 3 ≤ z.length by omega), Bool.false_and]
    · intro h1
      walk_at "px"
      refine opP_ixS (My.sz hz) (cps_ix (j := 1) (by omega) (by omega)) ?_
      walk_at "px"
      have e : isSl (.str z) = (decide (z.cps.toList.getD (z.length - 1) 0 ∈ digChs.cps.toList) && (decide (z.cps.toList.getD (z.length - 2) 0 = 47) && isNm (.str (cutS z none (some (-2)))))) := by
        show (decide (3 ≤ z.length) && _) = _
        rw [decide_eq_true (show 3 ≤ z.length by omega), Bool.true_and]
      walk_at "pi"
      · intro h2
        walk_at "px"
        refine opP_ixS (My.sz hz) (cps_ix (j := 2) (by omega) (by omega)) ?_
        walk_at "px"
        rw [sign47]
        walk_at "pi"
        · intro h3
          walk_at "px"
          refine ⟨okx_cut hx, r1d ?_⟩
          rw [e, decide_eq_true (show _ ∈ digChs.cps.toList from h2), decide_eq_true h3]
          rfl
        · intro h3
          refine r1d ?_
          rw [e, decide_eq_false h3, Bool.false_and, Bool.and_false]
      · intro h2
        refine r1d ?_
        rw [e, decide_eq_false (show ¬ _ ∈ digChs.cps.toList from h2), Bool.false_and]
  all_goals walk_at "px"
  all_goals walk_at "pr"
theorem ok_is_key (T : TX K mg w) : FnOk P w K mg base CX0 3 T.a_is_key T.d_is_key ["kind", "name"] (spP K (P2 fun k n => okx 8 k = true ∧ okx 8 n = true) (R2' fun k n => .bool (isKy k n))) := by
  refine okP T.F_is_key sc_is_key 0 rfl P2.len fun cdv A outer s H E hr => ⟨_, (pss_cons (ps_if (pt_cmpR (opK_eqD (K := K) rfl hr.units) (pv 0) pe_str (nomark _)) (pss_one (ps_ret (pe_call (ok_is_slot_name T) (hr.mono (by decide)) (by rfl) T.g_is_slot_name T.F_is_slot_name.kp T.b_is_slot_name .nil pass0 (pa_cons (pv 1) pa_nil)))) pss_nil)
      (pss_one (ps_ret (pe_and (pe_cmpR (opK_inT (K := K) rfl (hu65 hr)) (pv 0) (pe_glob (v := .ref T.ca_KINDS) (by rfl) T.c_KINDS rfl) rfl) (pe_one (pe_call (ok_is_plain_name T) (hr.mono (by decide)) (by rfl) T.g_is_plain_name T.F_is_plain_name.kp T.b_is_plain_name .nil pass0 (pa_cons (pv 1) pa_nil))))))), fun ds hd => ?_⟩
  obtain ⟨k, n, rfl, hk, hn⟩ := hd
  walk_at "pn"
  walk_at "px"
  walk_at "pi"
  · intro h1
    walk_at "px"
    refine r2d ?_
    unfold isKy
    rw [if_pos h1]
  · intro h1
    walk_at "px"
    refine we_cT T.q_KINDS rfl ?_
    walk_at "px"
    have e : isKy k n = ((kindsD.any fun z => z.eqv k) && isNm n) := by
      unfold isKy
      rw [if_neg (by rw [h1]; exact Bool.false_ne_true)]
    walk_at "pi"
    · intro h2
      walk_at "px"
      refine r2d ?_
      rw [e, show (kindsD.any fun z => z.eqv k) = true from h2, Bool.true_and]
    · intro h2
      refine r2d ?_
      rw [e, show (kindsD.any fun z => z.eqv k) = false from h2, Bool.false_and]
end
/-! the forms of values -/
def openFrom (least : Int) : List PyData → Bool
  | [] => true
  | x :: xs => intIn x least 9 && openFrom (intOf x + 1) xs
def isOpN : PyData → Bool
  | .tuple xs => openFrom 0 xs
  | _ => false
def fBeat : PyData → Bool
  | .tuple [a, b] => isCt a && isCt b
  | _ => false
def fDrain : PyData → Bool
  | .tuple [a] => isTx a
  | _ => false
def fNode : PyData → Bool
  | .tuple [a, b, c, d, e] => isCt a && (isCt b && (isCt c && (intIn d 0 1 && isZo e)))
  | _ => false
def fNote : PyData → Bool
  | .tuple [a, b, c, d] => isTx a && (isCt d && ((b.eqv c && c.eqv (.str "")) || isKy b c))
  | _ => false
def fRollout : PyData → Bool
  | .tuple [a, b] => isCt a && isOpN b
  | _ => false
def fService : PyData → Bool
  | .tuple [a, b, c, d, e] => intIn a 0 9 && (intIn d 1 9 && (isTx b && (isCt c && isZo e)))
  | _ => false
def fTask : PyData → Bool
  | .tuple [a, b, c, d, e, f, g, h] => isCt a && (isCt c && (isCt g && (isTx b && (isZo f && (isZo h && ((statesD.any fun z => z.eqv d) && intIn e 0 1))))))
  | _ => false
abbrev preTup : PyData → Prop := fun x => ∃ xs, x = .tuple xs ∧ okx 8 (.tuple xs) = true
section
variable {P : Program} {w : World} {K : PySem.W.Frag} {mg : Str → Option Value} {base : Heap}
theorem ok__is_beat (T : TX K mg w) : FnOk P w K mg base CX0 3 T.a__is_beat T.d__is_beat ["value"] (spP K (P1 preTup) (R1 fun x => .bool (fBeat x))) := by
  refine okP T.F__is_beat sc__is_beat 0 rfl P1.len fun cdv A outer s H E hr => ⟨_, (pss_cons (ps_if (pt_cmpR op_ne (pe_callB (callK_len (K := K) rfl) (by rfl) T.n_len PySem.boot_len (pa_cons (pv 0) pa_nil)) pe_int (nomark _)) (pss_one (ps_ret pe_bl)) pss_nil)
      (pss_one (ps_ret (pe_and (pe_call (ok_is_count T) (hr.mono (by decide)) (by rfl) T.g_is_count T.F_is_count.kp T.b_is_count .nil pass0 (pa_cons (pe_ix (ixK_tup (K := K) rfl) (pv 0) pe_int (fun _ _ => rfl)) pa_nil)) (pe_one (pe_call (ok_is_count T) (hr.mono (by decide)) (by rfl) T.g_is_count T.F_is_count.kp T.b_is_count .nil pass0 (pa_cons (pe_ix (ixK_tup (K := K) rfl) (pv 0) pe_int (fun _ _ => rfl)) pa_nil))))))), fun ds hd => ?_⟩
  obtain ⟨x, rfl, xs, rfl, hx⟩ := hd
  walk_at "pn"
  match xs, hx with
  | [a, b], hx =>
    walk_at "px"
    walk_at "pi"
    · intro h1
      walk_at "px"
      refine r1d ?_
      show _ = PyData.bool (isCt a && isCt b)
      rw [h1, Bool.true_and]
    · intro h1
      refine r1d ?_
      show _ = PyData.bool (isCt a && isCt b)
      rw [h1, Bool.false_and]
  | [], hx =>
    walk_at "px"
    walk_at "pr"
  | [a], hx =>
    walk_at "px"
    walk_at "pr"
  | a :: b :: c :: r, hx =>
    walk_at "px"
    walk_at "pr"
theorem ok__is_drain (T : TX K mg w) : FnOk P w K mg base CX0 3 T.a__is_drain T.d__is_drain ["value"] (spP K (P1 preTup) (R1 fun x => .bool (fDrain x))) := by
  refine okP T.F__is_drain sc__is_drain 0 rfl P1.len fun cdv A outer s H E hr => ⟨_, (pss_one (ps_ret (pe_and (pe_cmpR op_eq (pe_callB (callK_len (K := K) rfl) (by rfl) T.n_len PySem.boot_len (pa_cons (pv 0) pa_nil)) pe_int (nomark _)) (pe_one (pe_call (ok_is_text T) (hr.mono (by decide)) (by rfl) T.g_is_text T.F_is_text.kp T.b_is_text .nil pass0 (pa_cons (pe_ix (ixK_tup (K := K) rfl) (pv 0) pe_int (fun _ _ => rfl)) pa_nil)))))), fun ds hd => ?_⟩
  obtain ⟨x, rfl, xs, rfl, hx⟩ := hd
  walk_at "pn"
  match xs, hx with
  | [a], hx =>
    have ha := okx_tup hx (x := a) (by simp)
    walk_at "px"
    walk_at "pr"
  | [], hx =>
    walk_at "px"
    walk_at "pr"
  | a :: b :: r, hx =>
    walk_at "px"
    walk_at "pr"
theorem ok__is_node (T : TX K mg w) : FnOk P w K mg base CX0 3 T.a__is_node T.d__is_node ["value"] (spP K (P1 preTup) (R1 fun x => .bool (fNode x))) := by
  refine okP T.F__is_node sc__is_node 5 rfl P1.len fun cdv A outer s H E hr => ⟨_, (pss_cons (ps_if (pt_cmpR op_ne (pe_callB (callK_len (K := K) rfl) (by rfl) T.n_len PySem.boot_len (pa_cons (pv 0) pa_nil)) pe_int (nomark _)) (pss_one (ps_ret pe_bl)) pss_nil)
      (pss_cons (ps_asg (pv 0) (pgK_tup (K := K) (n := 5) rfl rfl (pgs_cons (pg_name (i := 1) sc__is_node.nd rfl (Or.inl rfl)) (pgs_cons (pg_name (i := 2) sc__is_node.nd rfl (Or.inl rfl)) (pgs_cons (pg_name (i := 3) sc__is_node.nd rfl (Or.inl rfl)) (pgs_cons (pg_name (i := 4) sc__is_node.nd rfl (Or.inl rfl)) (pgs_cons (pg_name (i := 5) sc__is_node.nd rfl (Or.inl rfl)) pgs_nil)))))))
      (pss_one (ps_ret (pe_and (pe_call (ok_is_count T) (hr.mono (by decide)) (by rfl) T.g_is_count T.F_is_count.kp T.b_is_count .nil pass0 (pa_cons (pv 1) pa_nil)) (pe_and (pe_call (ok_is_count T) (hr.mono (by decide)) (by rfl) T.g_is_count T.F_is_count.kp T.b_is_count .nil pass0 (pa_cons (pv 2) pa_nil)) (pe_and (pe_call (ok_is_count T) (hr.mono (by decide)) (by rfl) T.g_is_count T.F_is_count.kp T.b_is_count .nil pass0 (pa_cons (pv 3) pa_nil)) (pe_and (pe_call (ok_is_integer_within T) (hr.mono (by decide)) (by rfl) T.g_is_integer_within T.F_is_integer_within.kp T.b_is_integer_within .nil pass0 (pa_cons (pv 4) (pa_cons pe_int (pa_cons pe_int pa_nil)))) (pe_one (pe_call (ok_is_zone T) (hr.mono (by decide)) (by rfl) T.g_is_zone T.F_is_zone.kp T.b_is_zone .nil pass0 (pa_cons (pv 5) pa_nil))))))))))), fun ds hd => ?_⟩
  obtain ⟨x, rfl, xs, rfl, hx⟩ := hd
  walk_at "pn"
  by_cases hl : xs.length = 5
  · match xs, hl with
    | [a, b, c, d, e], _ =>
      have he := okx_tup hx (x := e) (by simp)
      walk_at "pw"
      all_goals (refine r1d ?_; show _ = PyData.bool (fNode (.tuple [a, b, c, d, e])); simp_all [fNode, intOf])
  · have e : fNode (.tuple xs) = false := by
      unfold fNode
      split
      · rename_i h; injection h with h; rw [h] at hl; simp at hl
      · rfl
    walk_at "pw"
    refine r1d ?_
    rw [e]
theorem ok__are_open_numbers (T : TX K mg w) : FnOk P w K mg base CX0 2 T.a__are_open_numbers T.d__are_open_numbers ["numbers"] (spP K (P1 fun x => okx 8 x = true) (R1 fun x => .bool (isOpN x))) := by
  refine okP T.F__are_open_numbers sc__are_open_numbers 2 rfl P1.len fun cdv A outer s H E hr => ⟨_, (pss_cons (ps_if (pt_not (pt_val (pe_callB (callK_isi (K := K) rfl) (by rfl) T.n_isinstance (by decide +kernel) (pa_cons (pv 0) (pa_cons (pe_bltn (v := .ty "tuple") (u := .type "tuple") (by rfl) T.n_tuple (by decide +kernel) rfl) pa_nil))))) (pss_one (ps_ret pe_bl)) pss_nil)
      (pss_cons (ps_set (i := 1) sc__are_open_numbers.nd rfl (Or.inl rfl) pe_int)
      (pss_cons (ps_for PassesOwn.never rfl (piK_tup (K := K) rfl (pv 0)) (pg_name (i := 2) sc__are_open_numbers.nd rfl (Or.inl rfl))
        (pss_cons (ps_if (pt_not (ptK_truth (K := K) rfl (pe_call (ok_is_integer_within T) (hr.mono (by decide)) (by rfl) T.g_is_integer_within T.F_is_integer_within.kp T.b_is_integer_within .nil pass0 (pa_cons (pv 2) (pa_cons (pv 1) (pa_cons (pe_glob (v := .int 9) (by rfl) T.c_MOST_NUMBER ⟨_, rfl⟩) pa_nil)))) (by intro _; rfl))) (pss_one (ps_ret pe_bl)) pss_nil)
        (pss_one (ps_set (i := 1) sc__are_open_numbers.nd rfl (Or.inl rfl) (pe_op op_add (pv 2) pe_int)))))
      (pss_one (ps_ret pe_bl))))), fun ds hd => ?_⟩
  obtain ⟨x, rfl, hx⟩ := hd
  walk_at "pn"
  cases x
  case tuple xs =>
    walk_at "px"
    refine ws_for ?_
    walk_at "px"
    refine ⟨Int, fun l => [.d (.tuple xs), .d (.int l), .u], fun _ => (), fun i l => openFrom 0 xs = openFrom l (xs.drop i), nxt 0 (by walk_at "wk") rfl rfl, fun i x l hx hI => ?_, fun l hI => ?_⟩
    · have hd : xs.drop i = x :: xs.drop (i + 1) := by
        have hi := (List.getElem?_eq_some_iff.mp hx)
        rw [List.drop_eq_getElem_cons hi.1, hi.2]
      have hI' : openFrom 0 xs = (intIn x l 9 && openFrom (intOf x + 1) (xs.drop (i + 1))) := by rw [show openFrom 0 xs = _ from hI, hd]; rfl
      have hf : intIn x l 9 = false → isOpN (.tuple xs) = false := fun h => by
        show openFrom 0 xs = false
        rw [hI', h, Bool.false_and]
      cases x
      case int j =>
        walk_at "px"
        walk_at "pi"
        · intro h1
          walk_at "px"
          exact r1d (congrArg PyData.bool (hf h1).symm)
        · intro h1
          walk_at "px"
          exact nxt (j + 1) (by walk_at "wk") rfl (by show openFrom 0 xs = _; rw [hI', show intIn (.int j) l 9 = true from h1, Bool.true_and]; rfl)
      all_goals walk_at "px"
      all_goals exact r1d (congrArg PyData.bool (hf rfl).symm)
    · have hI' : openFrom 0 xs = openFrom l (xs.drop xs.length) := hI
      rw [List.drop_length] at hI'
      walk_at "px"
      exact r1d (congrArg PyData.bool hI'.symm)
  all_goals walk_at "px"
  all_goals walk_at "pr"
theorem ok__is_rollout (T : TX K mg w) : FnOk P w K mg base CX0 3 T.a__is_rollout T.d__is_rollout ["value"] (spP K (P1 preTup) (R1 fun x => .bool (fRollout x))) := by
  refine okP T.F__is_rollout sc__is_rollout 0 rfl P1.len fun cdv A outer s H E hr => ⟨_, (pss_one (ps_ret (pe_and (pe_cmpR op_eq (pe_callB (callK_len (K := K) rfl) (by rfl) T.n_len PySem.boot_len (pa_cons (pv 0) pa_nil)) pe_int (nomark _)) (pe_and (pe_call (ok_is_count T) (hr.mono (by decide)) (by rfl) T.g_is_count T.F_is_count.kp T.b_is_count .nil pass0 (pa_cons (pe_ix (ixK_tup (K := K) rfl) (pv 0) pe_int (fun _ _ => rfl)) pa_nil)) (pe_one (pe_call (ok__are_open_numbers T) (hr.mono (by decide)) (by rfl) T.g__are_open_numbers T.F__are_open_numbers.kp T.b__are_open_numbers .nil pass0 (pa_cons (pe_ix (ixK_tup (K := K) rfl) (pv 0) pe_int (fun _ _ => rfl)) pa_nil))))))), fun ds hd => ?_⟩
  obtain ⟨x, rfl, xs, rfl, hx⟩ := hd
  walk_at "pn"
  by_cases hl : xs.length = 2
  · match xs, hl with
    | [a, b], _ =>
      have hb := okx_tup hx (x := b) (by simp)
      walk_at "pw"
      all_goals (refine r1d ?_; show _ = PyData.bool (fRollout (.tuple [a, b])); simp_all [fRollout, intOf])
  · have e : fRollout (.tuple xs) = false := by
      unfold fRollout
      split
      · rename_i h; injection h with h; rw [h] at hl; simp at hl
      · rfl
    walk_at "pw"
    refine r1d ?_
    rw [e]
theorem ok__is_service (T : TX K mg w) : FnOk P w K mg base CX0 3 T.a__is_service T.d__is_service ["value"] (spP K (P1 preTup) (R1 fun x => .bool (fService x))) := by
  refine okP T.F__is_service sc__is_service 5 rfl P1.len fun cdv A outer s H E hr => ⟨_, (pss_cons (ps_if (pt_cmpR op_ne (pe_callB (callK_len (K := K) rfl) (by rfl) T.n_len PySem.boot_len (pa_cons (pv 0) pa_nil)) pe_int (nomark _)) (pss_one (ps_ret pe_bl)) pss_nil)
      (pss_cons (ps_asg (pv 0) (pgK_tup (K := K) (n := 5) rfl rfl (pgs_cons (pg_name (i := 1) sc__is_service.nd rfl (Or.inl rfl)) (pgs_cons (pg_name (i := 2) sc__is_service.nd rfl (Or.inl rfl)) (pgs_cons (pg_name (i := 3) sc__is_service.nd rfl (Or.inl rfl)) (pgs_cons (pg_name (i := 4) sc__is_service.nd rfl (Or.inl rfl)) (pgs_cons (pg_name (i := 5) sc__is_service.nd rfl (Or.inl rfl)) pgs_nil)))))))
      (pss_cons (ps_if (PW.pt (pw_or (pt_not (ptK_truth (K := K) rfl (pe_call (ok_is_integer_within T) (hr.mono (by decide)) (by rfl) T.g_is_integer_within T.F_is_integer_within.kp T.b_is_integer_within .nil pass0 (pa_cons (pv 1) (pa_cons pe_int (pa_cons (pe_glob (v := .int 9) (by rfl) T.c_MOST_NUMBER ⟨_, rfl⟩) pa_nil)))) (by intro _; rfl))) (pw_or1 (pt_not (ptK_truth (K := K) rfl (pe_call (ok_is_integer_within T) (hr.mono (by decide)) (by rfl) T.g_is_integer_within T.F_is_integer_within.kp T.b_is_integer_within .nil pass0 (pa_cons (pv 4) (pa_cons pe_int (pa_cons (pe_glob (v := .int 9) (by rfl) T.c_MOST_NUMBER ⟨_, rfl⟩) pa_nil)))) (by intro _; rfl)))))) (pss_one (ps_ret pe_bl)) pss_nil)
      (pss_one (ps_ret (pe_and (pe_call (ok_is_text T) (hr.mono (by decide)) (by rfl) T.g_is_text T.F_is_text.kp T.b_is_text .nil pass0 (pa_cons (pv 2) pa_nil)) (pe_and (pe_call (ok_is_count T) (hr.mono (by decide)) (by rfl) T.g_is_count T.F_is_count.kp T.b_is_count .nil pass0 (pa_cons (pv 3) pa_nil)) (pe_one (pe_call (ok_is_zone T) (hr.mono (by decide)) (by rfl) T.g_is_zone T.F_is_zone.kp T.b_is_zone .nil pass0 (pa_cons (pv 5) pa_nil)))))))))), fun ds hd => ?_⟩
  obtain ⟨x, rfl, xs, rfl, hx⟩ := hd
  walk_at "pn"
  by_cases hl : xs.length = 5
  · match xs, hl with
    | [a, b, c, d, e], _ =>
      have hb := okx_tup hx (x := b) (by simp)
      have he := okx_tup hx (x := e) (by simp)
      walk_at "pw"
      all_goals (refine r1d ?_; show _ = PyData.bool (fService (.tuple [a, b, c, d, e])); simp_all [fService, intOf])
  · have e : fService (.tuple xs) = false := by
      unfold fService
      split
      · rename_i h; injection h with h; rw [h] at hl; simp at hl
      · rfl
    walk_at "pw"
    refine r1d ?_
    rw [e]
theorem ok__is_note (T : TX K mg w) : FnOk P w K mg base CX0 4 T.a__is_note T.d__is_note ["value"] (spP K (P1 preTup) (R1 fun x => .bool (fNote x))) := by
  refine okP T.F__is_note sc__is_note 4 rfl P1.len fun cdv A outer s H E hr => ⟨_, (pss_cons (ps_if (pt_cmpR op_ne (pe_callB (callK_len (K := K) rfl) (by rfl) T.n_len PySem.boot_len (pa_cons (pv 0) pa_nil)) pe_int (nomark _)) (pss_one (ps_ret pe_bl)) pss_nil)
      (pss_cons (ps_asg (pv 0) (pgK_tup (K := K) (n := 4) rfl rfl (pgs_cons (pg_name (i := 1) sc__is_note.nd rfl (Or.inl rfl)) (pgs_cons (pg_name (i := 2) sc__is_note.nd rfl (Or.inl rfl)) (pgs_cons (pg_name (i := 3) sc__is_note.nd rfl (Or.inl rfl)) (pgs_cons (pg_name (i := 4) sc__is_note.nd rfl (Or.inl rfl)) pgs_nil))))))
      (pss_cons (ps_if (PW.pt (pw_or (pt_not (ptK_truth (K := K) rfl (pe_call (ok_is_text T) (hr.mono (by decide)) (by rfl) T.g_is_text T.F_is_text.kp T.b_is_text .nil pass0 (pa_cons (pv 1) pa_nil)) (by intro _; rfl))) (pw_or1 (pt_not (ptK_truth (K := K) rfl (pe_call (ok_is_count T) (hr.mono (by decide)) (by rfl) T.g_is_count T.F_is_count.kp T.b_is_count .nil pass0 (pa_cons (pv 4) pa_nil)) (by intro _; rfl)))))) (pss_one (ps_ret pe_bl)) pss_nil)
      (pss_one (ps_ret (pe_or (pe_chain (opK_eqD (K := K) rfl hr.units) (opK_eqD (K := K) rfl hr.units) (pv 2) (pv 3) pe_str) (pe_one (pe_call (ok_is_key T) (hr.mono (by decide)) (by rfl) T.g_is_key T.F_is_key.kp T.b_is_key .nil pass0 (pa_cons (pv 2) (pa_cons (pv 3) pa_nil)))))))))), fun ds hd => ?_⟩
  obtain ⟨x, rfl, xs, rfl, hx⟩ := hd
  walk_at "pn"
  by_cases hl : xs.length = 4
  · match xs, hl with
    | [a, b, c, d], _ =>
      have ha := okx_tup hx (x := a) (by simp)
      have hb := okx_tup hx (x := b) (by simp)
      have hc := okx_tup hx (x := c) (by simp)
      walk_at "pw"
      all_goals (refine r1d ?_; show _ = PyData.bool (fNote (.tuple [a, b, c, d])); simp_all [fNote, intOf])
  · have e : fNote (.tuple xs) = false := by
      unfold fNote
      split
      · rename_i h; injection h with h; rw [h] at hl; simp at hl
      · rfl
    walk_at "pw"
    refine r1d ?_
    rw [e]
theorem ok__is_task (T : TX K mg w) : FnOk P w K mg base CX0 3 T.a__is_task T.d__is_task ["value"] (spP K (P1 preTup) (R1 fun x => .bool (fTask x))) := by
  refine okP T.F__is_task sc__is_task 8 rfl P1.len fun cdv A outer s H E hr => ⟨_, (pss_cons (ps_if (pt_cmpR op_ne (pe_callB (callK_len (K := K) rfl) (by rfl) T.n_len PySem.boot_len (pa_cons (pv 0) pa_nil)) pe_int (nomark _)) (pss_one (ps_ret pe_bl)) pss_nil)
      (pss_cons (ps_asg (pv 0) (pgK_tup (K := K) (n := 8) rfl rfl (pgs_cons (pg_name (i := 1) sc__is_task.nd rfl (Or.inl rfl)) (pgs_cons (pg_name (i := 2) sc__is_task.nd rfl (Or.inl rfl)) (pgs_cons (pg_name (i := 3) sc__is_task.nd rfl (Or.inl rfl)) (pgs_cons (pg_name (i := 4) sc__is_task.nd rfl (Or.inl rfl)) (pgs_cons (pg_name (i := 5) sc__is_task.nd rfl (Or.inl rfl)) (pgs_cons (pg_name (i := 6) sc__is_task.nd rfl (Or.inl rfl)) (pgs_cons (pg_name (i := 7) sc__is_task.nd rfl (Or.inl rfl)) (pgs_cons (pg_name (i := 8) sc__is_task.nd rfl (Or.inl rfl)) pgs_nil))))))))))
      (pss_cons (ps_if (PW.pt (pw_or (pt_not (ptK_truth (K := K) rfl (pe_call (ok_is_count T) (hr.mono (by decide)) (by rfl) T.g_is_count T.F_is_count.kp T.b_is_count .nil pass0 (pa_cons (pv 1) pa_nil)) (by intro _; rfl))) (pw_or (pt_not (ptK_truth (K := K) rfl (pe_call (ok_is_count T) (hr.mono (by decide)) (by rfl) T.g_is_count T.F_is_count.kp T.b_is_count .nil pass0 (pa_cons (pv 3) pa_nil)) (by intro _; rfl))) (pw_or1 (pt_not (ptK_truth (K := K) rfl (pe_call (ok_is_count T) (hr.mono (by decide)) (by rfl) T.g_is_count T.F_is_count.kp T.b_is_count .nil pass0 (pa_cons (pv 7) pa_nil)) (by intro _; rfl))))))) (pss_one (ps_ret pe_bl)) pss_nil)
      (pss_cons (ps_if (PW.pt (pw_or (pt_not (ptK_truth (K := K) rfl (pe_call (ok_is_text T) (hr.mono (by decide)) (by rfl) T.g_is_text T.F_is_text.kp T.b_is_text .nil pass0 (pa_cons (pv 2) pa_nil)) (by intro _; rfl))) (pw_or (pt_not (ptK_truth (K := K) rfl (pe_call (ok_is_zone T) (hr.mono (by decide)) (by rfl) T.g_is_zone T.F_is_zone.kp T.b_is_zone .nil pass0 (pa_cons (pv 6) pa_nil)) (by intro _; rfl))) (pw_or1 (pt_not (ptK_truth (K := K) rfl (pe_call (ok_is_zone T) (hr.mono (by decide)) (by rfl) T.g_is_zone T.F_is_zone.kp T.b_is_zone .nil pass0 (pa_cons (pv 8) pa_nil)) (by intro _; rfl))))))) (pss_one (ps_ret pe_bl)) pss_nil)
      (pss_one (ps_ret (pe_and (pe_cmpR (opK_inT (K := K) rfl (hu65 hr)) (pv 4) (pe_glob (v := .ref T.ca_STATES) (by rfl) T.c_STATES rfl) rfl) (pe_one (pe_call (ok_is_integer_within T) (hr.mono (by decide)) (by rfl) T.g_is_integer_within T.F_is_integer_within.kp T.b_is_integer_within .nil pass0 (pa_cons (pv 5) (pa_cons pe_int (pa_cons pe_int pa_nil)))))))))))), fun ds hd => ?_⟩
  obtain ⟨x, rfl, xs, rfl, hx⟩ := hd
  walk_at "pn"
  by_cases hl : xs.length = 8
  · match xs, hl with
    | [a, b, c, d, e, f, g, h], _ =>
      have hb := okx_tup hx (x := b) (by simp)
      have hd := okx_tup hx (x := d) (by simp)
      have hf := okx_tup hx (x := f) (by simp)
      have hh := okx_tup hx (x := h) (by simp)
      walk_at "pw"
      all_goals try (refine we_cT T.q_STATES rfl ?_; walk_at "pw")
      all_goals (refine r1d ?_; show _ = PyData.bool (fTask (.tuple [a, b, c, d, e, f, g, h])); simp_all [fTask, intOf, statesD, sc])
  · have e : fTask (.tuple xs) = false := by
      unfold fTask
      split
      · rename_i h; injection h with h; rw [h] at hl; simp at hl
      · rfl
    walk_at "pw"
    refine r1d ?_
    rw [e]
end
/-! objects -/
def formOf (z : Str) : PyData → Bool :=
  if z = "beat" then fBeat else if z = "drain" then fDrain else if z = "node" then fNode else if z = "note" then fNote else if z = "rollout" then fRollout else if z = "service" then fService else fTask
def isObj (k n v : PyData) : Bool := isKy k n && (isTupD v && match k with | .str z => formOf z v | _ => false)
def kindNames : List Str := ["beat", "drain", "node", "note", "rollout", "service", "task"]
theorem eqv_strR {d : PyData} {t : Str} (h : d.eqv (.str t) = true) : d = .str t := by
  cases d with
  | str z => unfold PyData.eqv at h; rw [beq_iff_eq] at h; rw [h]
  | _ => unfold PyData.eqv at h; cases h
theorem eqv_strL {d : PyData} {t : Str} (h : (PyData.str t).eqv d = true) : d = .str t := by
  cases d with
  | str z => unfold PyData.eqv at h; rw [beq_iff_eq] at h; rw [h]
  | _ => unfold PyData.eqv at h; cases h
theorem isKy_kind {k n : PyData} (h : isKy k n = true) : ∃ z ∈ kindNames, k = .str z := by
  unfold isKy at h
  split at h
  · next he => exact ⟨_, by decide, eqv_strR he⟩
  · rw [Bool.and_eq_true, List.any_eq_true] at h
    obtain ⟨⟨z, hz, he⟩, _⟩ := h
    simp only [kindsD, List.mem_cons, List.not_mem_nil, or_false] at hz
    rcases hz with rfl | rfl | rfl | rfl | rfl | rfl | rfl <;> exact ⟨_, by decide, eqv_strL he⟩
section
variable {P : Program} {w : World} {K : PySem.W.Frag} {mg : Str → Option Value} {base : Heap}
theorem form_fn (T : TX K mg w) (z : Str) (hz : z ∈ kindNames) : ∃ (k : Nat) (fa : Addr) (fd : FuncData), k + 1 ≤ 5 ∧ FnOk P w K mg base CX0 k fa fd ["value"] (spP K (P1 preTup) (R1 fun x => .bool (formOf z x))) ∧ PySem.W.keepIn K (.ref fa) = true ∧ Binds K fd ["value"] [] ∧ PySem.W.nsIn K T.ca_VALUE_FORMS z = some (some (.ref fa)) := by
  simp only [kindNames, List.mem_cons, List.not_mem_nil, or_false] at hz
  rcases hz with rfl | rfl | rfl | rfl | rfl | rfl | rfl
  · exact ⟨_, _, _, by decide, ok__is_beat T, T.F__is_beat.kp, T.b__is_beat, T.j_VALUE_FORMS_beat⟩
  · exact ⟨_, _, _, by decide, ok__is_drain T, T.F__is_drain.kp, T.b__is_drain, T.j_VALUE_FORMS_drain⟩
  · exact ⟨_, _, _, by decide, ok__is_node T, T.F__is_node.kp, T.b__is_node, T.j_VALUE_FORMS_node⟩
  · exact ⟨_, _, _, by decide, ok__is_note T, T.F__is_note.kp, T.b__is_note, T.j_VALUE_FORMS_note⟩
  · exact ⟨_, _, _, by decide, ok__is_rollout T, T.F__is_rollout.kp, T.b__is_rollout, T.j_VALUE_FORMS_rollout⟩
  · exact ⟨_, _, _, by decide, ok__is_service T, T.F__is_service.kp, T.b__is_service, T.j_VALUE_FORMS_service⟩
  · exact ⟨_, _, _, by decide, ok__is_task T, T.F__is_task.kp, T.b__is_task, T.j_VALUE_FORMS_task⟩
theorem ok_is_object (T : TX K mg w) : FnOk P w K mg base CX0 5 T.a_is_object T.d_is_object ["kind", "name", "value"] (spP K (P3 fun k n v => okx 8 k = true ∧ okx 8 n = true ∧ okx 8 v = true) (R3 fun k n v => .bool (isObj k n v))) := by
  refine okPd T.F_is_object sc_is_object 1 rfl P3.len fun cdv A outer s H E hr ds hd => ?_
  obtain ⟨k, n, v, rfl, hk, hn, hv⟩ := hd
  obtain ⟨z, hz, hkz⟩ : ∃ z ∈ kindNames, isKy k n = true → k = .str z := by
    by_cases h : isKy k n = true
    · obtain ⟨z, h1, h2⟩ := isKy_kind h
      exact ⟨z, h1, fun _ => h2⟩
    · exact ⟨"beat", by decide, fun z => absurd z h⟩
  obtain ⟨lv, fa, fd, hlL', hlF, hlK, hlB, hj⟩ := form_fn (P := P) (w := w) (base := base) T z hz
  have hlL := Nat.le_of_succ_le_succ hlL'
  refine ⟨_, (pss_cons (ps_if (PW.pt (pw_or (pt_not (ptK_truth (K := K) rfl (pe_call (ok_is_key T) (hr.mono (by decide)) (by rfl) T.g_is_key T.F_is_key.kp T.b_is_key .nil pass0 (pa_cons (pv 0) (pa_cons (pv 1) pa_nil))) (by intro _; rfl))) (pw_or1 (pt_not (pt_val (pe_callB (callK_isi (K := K) rfl) (by rfl) T.n_isinstance (by decide +kernel) (pa_cons (pv 2) (pa_cons (pe_bltn (v := .ty "tuple") (u := .type "tuple") (by rfl) T.n_tuple (by decide +kernel) rfl) pa_nil)))))))) (pss_one (ps_ret pe_bl)) pss_nil)
      (pss_cons (ps_set (i := 3) sc_is_object.nd rfl (Or.inl rfl) (pe_ix (ixK_kd (K := K) rfl T.D_VALUE_FORMS) (pe_glob (v := .ref T.ca_VALUE_FORMS) (by rfl) T.c_VALUE_FORMS rfl) (pv 0) (fun _ _ => rfl)))
      (pss_one (ps_ret (pe_callL (i := 3) hlF (hr.mono hlL) rfl (Or.inl rfl) hlK hlB .nil pass0 (pa_cons (pv 2) pa_nil)))))), ?_⟩
  walk_at "pn"
  walk_at "px"
  walk_at "pi"
  · intro h1
    have e := hkz h1
    walk_at "px"
    cases v
    case tuple xs =>
      walk_at "px"
      refine we_cV ?_
      rw [e]
      walk_at "px"
      refine opP_kd hj ?_
      walk_at "px"
      refine we_callL1 rfl ?_
      walk_at "px"
      refine r3d ?_
      show _ = PyData.bool (isKy (.str z) n && (true && formOf z (.tuple xs)))
      rw [show isKy (.str z) n = true by rw [← e]; exact h1]
      rfl
    all_goals walk_at "px"
    all_goals (refine r3d ?_; show _ = PyData.bool (isKy k n && (false && _)); rw [Bool.false_and, Bool.and_false])
  · intro h1
    walk_at "px"
    refine r3d ?_
    show _ = PyData.bool (isKy k n && _)
    rw [h1, Bool.false_and]
end
/-! the draws of a script: many numbers from 0 to 996 -/
def Drawn (ds : List Int) : Prop := ∀ d ∈ ds, 0 ≤ d ∧ d < 997
theorem drawn_app {ds es : List Int} (h : Drawn ds) (g : Drawn es) : Drawn (ds ++ es) := fun d hd => (List.mem_append.mp hd).elim (h d) (g d)
theorem drawn_one {d : Int} (h : 0 ≤ d) (g : d < 997) : Drawn [d] := fun e he => by rw [List.mem_singleton] at he; subst he; exact ⟨h, g⟩
theorem drawn_take {ds : List Int} (n : Nat) (h : Drawn ds) : Drawn (ds.take n) := fun d hd => h d (List.mem_of_mem_take hd)
def sp_draws (K : PySem.W.Frag) : Sp := fun vs H Q _ => ∃ (a : Addr) (ns : List Int) (many : Nat), vs = [.ref a, .int (many : Int)] ∧ SqL K H a (ns.map V.int) ∧ ns.length ≤ 63 ∧ many ≤ 9000 ∧
  ∀ (p : Addr) (H' : Hp) (ds : List Int), H p = none → Same H H' → H' p = some (.lst (ds.map V.int)) → Drawn ds → ds.length = many → Q (.ref p) H'
section
variable {P : Program} {w : World} {K : PySem.W.Frag} {mg : Str → Option Value} {base : Heap}
theorem ok__law_draws (T : TX K mg w) : FnOk P w K mg base CX0 1 T.a__law_draws T.d__law_draws ["script", "many"] (sp_draws K) := by
  refine T.F__law_draws.ok sc__law_draws (fun vs H Q E h => ?_) (fun cdv A outer s H vs Q E hr h => ?_)
  · obtain ⟨a, ns, many, rfl, _⟩ := h
    rfl
  · obtain ⟨a, ns, many, rfl, hS, hlen, hm, q⟩ := h
    refine ⟨_, (pss_cons (ps_set (i := 2) sc__law_draws.nd rfl (Or.inl rfl) (pe_lst pa_nil))
      (pss_cons (ps_set (i := 3) sc__law_draws.nd rfl (Or.inl rfl) pe_int)
      (pss_cons (ps_for PassesOwn.never rfl (pi_range1 (by rfl) T.n_range (pa_cons (pe_callB call_len_seq (by rfl) T.n_len PySem.boot_len (pa_cons (pv 0) pa_nil)) pa_nil)) (pg_name (i := 4) sc__law_draws.nd rfl (Or.inl rfl))
        (pss_cons (ps_set (i := 5) sc__law_draws.nd rfl (Or.inl rfl) (pe_callB call_abs (by rfl) T.n_abs (by decide +kernel) (pa_cons (pe_callTy call_int1 (by rfl) T.n_int (by decide +kernel) (pa_cons (pe_ix ix_list (pv 0) (pv 4) (fun _ _ => rfl)) pa_nil)) pa_nil)))
        (pss_cons (ps_set (i := 3) sc__law_draws.nd rfl (Or.inl rfl) (pe_op op_mod (pe_callTy call_int1 (by rfl) T.n_int (by decide +kernel) (pa_cons (pe_op op_add (pe_op op_add (pe_op op_mul (pv 3) pe_int) (pe_op op_mod (pv 5) pe_int)) (pv 4)) pa_nil)) pe_int))
        (pss_cons (ps_set (i := 6) sc__law_draws.nd rfl (Or.inl rfl) pe_int)
        (C8.pss_cut (ps_if (pt_cmpR op_ge (pv 5) (pe_op op_pow pe_int pe_int) (nomark _)) (pss_one (ps_set (i := 6) sc__law_draws.nd rfl (Or.inl rfl) (pv 5))) (pss_cons (ps_expr (pe_bm PySem.F.plainAttrs_list PySem.F.slot_list_append PySem.F.type_list_append mt_append (pv 2) (pa_cons (pe_op op_mod (pv 5) pe_int) pa_nil)))
          (pss_one (ps_expr (pe_bm PySem.F.plainAttrs_list PySem.F.slot_list_append PySem.F.type_list_append mt_append (pv 2) (pa_cons (pe_op op_mod (pe_op op_mod (pe_callTy call_int1 (by rfl) T.n_int (by decide +kernel) (pa_cons (pe_op op_add (pe_op op_mul (pv 3) pe_int) pe_int) pa_nil)) pe_int) pe_int) pa_nil))))))
        (pss_one (ps_for PassesOwn.never rfl (pi_range1 (by rfl) T.n_range (pa_cons pe_int pa_nil)) (pg_name (i := 7) sc__law_draws.nd rfl (Or.inl rfl))
          (pss_one (ps_if (pt_cmpR op_gt (pv 6) pe_int (nomark _)) (pss_cons (ps_expr (pe_bm PySem.F.plainAttrs_list PySem.F.slot_list_append PySem.F.type_list_append mt_append (pv 2) (pa_cons (pe_op op_mod (pe_callTy call_int1 (by rfl) T.n_int (by decide +kernel) (pa_cons (pv 6) pa_nil)) pe_int) pa_nil)))
            (pss_one (ps_set (i := 6) sc__law_draws.nd rfl (Or.inl rfl) (pe_op op_fdiv (pv 6) pe_int)))) pss_nil)))))))))
      (pss_cons (ps_for PassesOwn.never rfl (pi_range1 (by rfl) T.n_range (pa_cons (pv 1) pa_nil)) (pg_name (i := 4) sc__law_draws.nd rfl (Or.inl rfl))
        (pss_cons (ps_set (i := 3) sc__law_draws.nd rfl (Or.inl rfl) (pe_op op_mod (pe_callTy call_int1 (by rfl) T.n_int (by decide +kernel) (pa_cons (pe_op op_add (pe_op op_add (pe_op op_mul (pv 3) pe_int) (pv 4)) pe_int) pa_nil)) pe_int))
        (pss_one (ps_expr (pe_bm PySem.F.plainAttrs_list PySem.F.slot_list_append PySem.F.type_list_append mt_append (pv 2) (pa_cons (pe_op op_mod (pe_callTy call_int1 (by rfl) T.n_int (by decide +kernel) (pa_cons (pv 3) pa_nil)) pe_int) pa_nil))))))
      (pss_one (ps_ret (pe_slice sl_list (pv 2) po_none (po_some (pv 1))))))))), ?_⟩
    refine ⟨Nat.zero_le _, fun o ho => ?_⟩
    have s1 := same_upd (o := .lst []) ho
    -- each cell
    refine ⟨_, rfl, a, _, rfl, .inl (s1.seq hS), _, rfl, by rw [List.length_map]; omega, by rw [List.length_map]; omega, for_range (lo := 0) (n := _) (fun i σ H2 => ∃ (ds : List Int) (mx : Int) (x4 x5 x6 x7 : Option V), σ = [some (.ref a), some (.int (many : Int)), some (.ref o), some (.int mx), x4, x5, x6, x7] ∧ Same H H2 ∧ H2 o = some (.lst (ds.map V.int)) ∧ Drawn ds ∧ ds.length ≤ 62 * i)
      ⟨[], 7, none, none, none, none, rfl, s1, upd_same, (fun _ h => by cases h), Nat.le_refl _⟩ ?_ ?_⟩
    · rintro i σ H2 hi ⟨ds, mx, x4, x5, x6, x7, rfl, g1, g2, g3, g4⟩
      rw [List.length_map] at hi
      have hi' : i < ns.length := by omega
      have hg : ns[i]? = some ns[i] := List.getElem?_eq_getElem hi'
      have ha : atI (ns.map V.int) (0 + (i : Int)) = some (.int ns[i]) := by rw [Int.zero_add]; exact at_map hg
      generalize ns[i] = c at ha
      -- cell, mixed
      refine ⟨_, rfl, _, rfl, a, _, _, _, rfl, rfl, g1.seq hS, ha, .inl ⟨_, rfl, _, rfl, ?_⟩⟩
      dsimp only
      have hc : 0 ≤ (if c < 0 then -c else c) := by split <;> omega
      generalize (if c < 0 then -c else c) = cell at hc
      refine ⟨_, rfl, _, _, rfl, rfl, .inr ⟨by decide, by decide⟩, _, rfl, _, _, rfl, rfl, (by show (0 : Int) < _; decide), _, _, rfl, rfl, _, rfl, _, _, rfl, rfl, .inl ⟨_, rfl, _, _, rfl, rfl, (by show (0 : Int) < _; decide), ?_⟩⟩
      dsimp only
      generalize (mx * 48271 + cell % 1000003 + (0 + (i : Int))) % 65537 = mx2
      -- rest = 0; if cell >= 10 ** 18
      refine ⟨fun σ' H' => ∃ (ds' : List Int) (rest : Int) , 0 ≤ rest ∧ σ' = [some (.ref a), some (.int (many : Int)), some (.ref o), some (.int mx2), some (.int (0 + (i : Int))), some (.int cell), some (.int rest), x7] ∧ Same H H' ∧ H' o = some (.lst (ds'.map V.int)) ∧ Drawn ds' ∧ ds'.length ≤ 62 * i + 2, ?_, ?_⟩
      · refine ⟨_, rfl, _, _, rfl, rfl, ⟨by decide, by decide, by decide⟩, _, _, rfl, rfl, _, rfl, ifd (fun hb => ?_) (fun hb => ?_)⟩
        · exact ⟨_, rfl, ds, cell, hc, rfl, g1, g2, g3, by omega⟩
        · refine ⟨_, rfl, .inl ⟨rfl, _, sql g2⟩, _, rfl, _, _, rfl, rfl, (by show (0 : Int) < _; decide), o, _, _, rfl, rfl, g2, szl (by rw [List.length_map]; omega), ?_⟩
          refine ⟨_, rfl, .inl ⟨rfl, _, sql upd_same⟩, _, rfl, _, _, rfl, rfl, .inr ⟨by decide, by decide⟩, _, _, rfl, rfl, .inl ⟨_, rfl, _, _, rfl, rfl, (by show (0 : Int) < _; decide), _, _, rfl, rfl, (by show (0 : Int) < _; decide), o, _, _, rfl, rfl, upd_same, szl (by rw [List.length_append, List.length_map]; simp only [List.length_cons, List.length_nil]; omega), ?_⟩⟩
          refine ⟨ds ++ [cell % 997, (mx2 * 69621 + 5) % 65521 % 997], 0, Int.le_refl _, rfl, same_put (same_put g1 ho) ho, ?_, drawn_app g3 fun d hd => ?_, by rw [List.length_append]; simp only [List.length_cons, List.length_nil]; omega⟩
          · rw [upd_same, List.map_append, List.append_assoc]
            rfl
          · simp only [List.mem_cons, List.not_mem_nil, or_false] at hd
            rcases hd with rfl | rfl
            · exact ⟨Int.emod_nonneg _ (by decide), Int.emod_lt_of_pos _ (by decide)⟩
            · exact ⟨Int.emod_nonneg _ (by decide), Int.emod_lt_of_pos _ (by decide)⟩
      rintro σ' H' ⟨ds', rest, hr0, rfl, k1, k2, k3, k4⟩
      -- sixty times
      refine ⟨60, rfl, by decide, by decide, for_range (lo := 0) (n := 60) (fun j σ H3 => ∃ (es : List Int) (rest : Int) (x7 : Option V), 0 ≤ rest ∧ σ = [some (.ref a), some (.int (many : Int)), some (.ref o), some (.int mx2), some (.int (0 + (i : Int))), some (.int cell), some (.int rest), x7] ∧ Same H H3 ∧ H3 o = some (.lst (es.map V.int)) ∧ Drawn es ∧ es.length ≤ 62 * i + 2 + j)
        ⟨ds', rest, x7, hr0, rfl, k1, k2, k3, k4⟩ ?_ ?_⟩
      · rintro j σ H3 hj ⟨es, rest, x7, h0, rfl, k1, k2, k3, k4⟩
        refine ⟨_, rfl, _, _, rfl, rfl, _, rfl, ifd (fun hb => ?_) (fun hb => ?_)⟩
        · refine ⟨_, rfl, .inl ⟨rfl, _, sql k2⟩, _, rfl, .inl ⟨_, rfl, _, _, rfl, rfl, (by show (0 : Int) < _; decide), o, _, _, rfl, rfl, k2, szl (by rw [List.length_map]; omega), ?_⟩⟩
          refine ⟨_, rfl, _, _, rfl, rfl, ⟨by decide, by decide⟩, ?_⟩
          refine ⟨es ++ [rest % 997], rest / 997, some (.int (0 + (j : Int))), Int.ediv_nonneg h0 (by decide), rfl, same_put k1 ho, ?_, drawn_app k3 (drawn_one (Int.emod_nonneg _ (by decide)) (Int.emod_lt_of_pos _ (by decide))), by rw [List.length_append]; simp only [List.length_cons, List.length_nil]; omega⟩
          rw [upd_same, List.map_append]
          rfl
        · exact ⟨es, rest, some (.int (0 + (j : Int))), h0, rfl, k1, k2, k3, by omega⟩
      · rintro σ H3 ⟨es, rest, x7, h0, rfl, k1, k2, k3, k4⟩
        exact ⟨es, mx2, _, _, _, _, rfl, k1, k2, k3, by omega⟩
    · rintro σ H2 ⟨ds, mx, x4, x5, x6, x7, rfl, g1, g2, g3, g4⟩
      have hl0 : ds.length ≤ 4000 := by
        simp only [List.length_map] at g4
        omega
      refine ⟨_, rfl, (many : Int), rfl, by omega, by omega, for_range (lo := 0) (n := (many : Int).toNat) (fun i σ H3 => ∃ (es : List Int) (mx : Int) (x4 : Option V), σ = [some (.ref a), some (.int (many : Int)), some (.ref o), some (.int mx), x4, x5, x6, x7] ∧ Same H H3 ∧ H3 o = some (.lst (es.map V.int)) ∧ Drawn es ∧ es.length = ds.length + i)
        ⟨ds, mx, x4, rfl, g1, g2, g3, rfl⟩ ?_ ?_⟩
      · rintro i σ H3 hi ⟨es, mx, x4, rfl, k1, k2, k3, k4⟩
        refine ⟨_, rfl, _, _, rfl, rfl, .inr ⟨by decide, by decide⟩, _, rfl, _, _, rfl, rfl, _, _, rfl, rfl, .inl ⟨_, rfl, _, _, rfl, rfl, (by show (0 : Int) < _; decide), ?_⟩⟩
        refine ⟨_, rfl, .inl ⟨rfl, _, sql k2⟩, _, rfl, .inl ⟨_, rfl, _, _, rfl, rfl, (by show (0 : Int) < _; decide), o, _, _, rfl, rfl, k2, szl (by rw [List.length_map]; omega), ?_⟩⟩
        refine ⟨es ++ [(mx * 16807 + (0 + (i : Int)) + 1) % 65537 % 997], (mx * 16807 + (0 + (i : Int)) + 1) % 65537, some (.int (0 + (i : Int))), rfl, same_put k1 ho, ?_, drawn_app k3 (drawn_one (Int.emod_nonneg _ (by decide)) (Int.emod_lt_of_pos _ (by decide))), by rw [List.length_append, k4]; simp only [List.length_cons, List.length_nil]; omega⟩
        rw [upd_same, List.map_append]
        rfl
      · rintro σ H3 ⟨es, mx, x4, rfl, k1, k2, k3, k4⟩
        refine ⟨_, rfl, _, rfl, _, rfl, o, _, rfl, sql k2, fun p hp => ?_⟩
        refine q p _ (es.take many) (k1.free hp) (k1.trans (same_upd hp)) ?_ (drawn_take _ k3) (by rw [List.length_take]; omega)
        rw [upd_same, cut0n, List.map_take]
end
/-! what the laws draw: names, texts, zones -/
abbrev DrL (n : Nat) (x : PyData) : Prop := ∃ ds : List Int, x = .list (ds.map .int) ∧ Drawn ds ∧ n ≤ ds.length ∧ ds.length ≤ 90000
theorem atI_of {α : Type} {xs : List α} {i : Int} (h0 : 0 ≤ i) (h1 : i.toNat < xs.length) : atI xs i = some (xs[i.toNat]'h1) := by
  have h2 : i < (xs.length : Int) := by omega
  unfold atI ixN
  rw [if_pos h0, if_pos h2]
  exact List.getElem?_eq_getElem h1
theorem dr_ix {ds : List Int} (hD : Drawn ds) {i : Int} (h0 : 0 ≤ i) (h1 : i < ds.length) : ∃ d, atI (ds.map PyData.int) i = some (.int d) ∧ 0 ≤ d ∧ d < 997 := by
  have hi : i.toNat < (ds.map PyData.int).length := by rw [List.length_map]; omega
  refine ⟨ds[i.toNat]'(by omega), ?_, hD _ (List.getElem_mem _)⟩
  rw [atI_of h0 hi, List.getElem_map]
theorem dr_getD {ds : List Int} {k : Int} (h0 : 0 ≤ k) (h1 : k.toNat < ds.length) : atI (ds.map PyData.int) k = some (.int (ds.getD k.toNat 0)) := by
  rw [atI_of h0 (by rw [List.length_map]; exact h1), List.getElem_map, List.getD_eq_getElem?_getD, List.getElem?_eq_getElem h1]
  rfl
theorem lit_ix {xs : List PyData} {i : Int} (h0 : 0 ≤ i) (h1 : i < xs.length) : ∃ x, atI xs i = some x ∧ x ∈ xs :=
  ⟨_, atI_of h0 (by omega), List.getElem_mem _⟩
theorem str_ix {z : Str} {i : Int} (h0 : 0 ≤ i) (h1 : i < z.length) : atI z.cps.toList i = some (z.cps.toList.getD i.toNat 0) ∧ z.cps.toList.getD i.toNat 0 ∈ z.cps.toList := by
  have hl := z_len z
  have hi : i.toNat < z.cps.toList.length := by omega
  rw [atI_of h0 hi, List.getD_eq_getElem?_getD, List.getElem?_eq_getElem hi]
  exact ⟨rfl, List.getElem_mem _⟩
section
variable {P : Program} {w : World} {K : PySem.W.Frag} {mg : Str → Option Value} {base : Heap}
theorem ok__law_name (T : TX K mg w) : FnOk P w K mg base CX0 1 T.a__law_name T.d__law_name ["draws"] (spP K (P1 (DrL 5)) (Q1 fun _ y => isNm y = true ∧ ∀ z, y = .str z → z.length ≠ 11)) := by
  refine okP T.F__law_name sc__law_name 3 rfl P1.len fun cdv A outer s H E hr => ⟨_, (pss_cons (ps_if (pt_cmpR op_eq (pe_op op_mod (pe_ix (ixK_list (K := K) rfl) (pv 0) pe_int (fun _ _ => rfl)) pe_int) pe_int (nomark _)) (pss_one (ps_ret (pe_ix (ixK_list (K := K) rfl) (pe_lst (pa_cons pe_str (pa_cons pe_str (pa_cons pe_str (pa_cons pe_str (pa_cons pe_str (pa_cons pe_str pa_nil))))))) (pe_op op_mod (pe_callTy call_intN (by rfl) T.n_int (by decide +kernel) (pa_cons (pe_ix (ixK_list (K := K) rfl) (pv 0) pe_int (fun _ _ => rfl)) pa_nil)) pe_int) (fun _ _ => rfl)))) pss_nil)
      (pss_cons (ps_set (i := 1) sc__law_name.nd rfl (Or.inr rfl) pe_str)
      (pss_cons (ps_set (i := 2) sc__law_name.nd rfl (Or.inl rfl) (pe_op op_add pe_int (pe_op op_mod (pe_callTy call_intN (by rfl) T.n_int (by decide +kernel) (pa_cons (pe_ix (ixK_list (K := K) rfl) (pv 0) pe_int (fun _ _ => rfl)) pa_nil)) pe_int)))
      (C8.pss_cut (ps_if (pt_cmpR op_eq (pe_op op_mod (pe_ix (ixK_list (K := K) rfl) (pv 0) pe_int (fun _ _ => rfl)) pe_int) pe_int (nomark _)) (pss_one (ps_set (i := 2) sc__law_name.nd rfl (Or.inl rfl) pe_int)) pss_nil)
      (pss_one (ps_ret (peK_join (K := K) rfl pe_str (pe_lc (own := [("k", 3)]) (g := gName 3) (tt := tYes) (by rfl) sc__law_name.nd (pi_range1 (by rfl) T.n_range (pa_cons (pv 2) pa_nil)) (blkOk_by (own := [("k", 3)]) (N := ["draws", "letters", "size", "k"]) (sc := defScope s__law_name) (by decide +kernel)) (fun _ _ _ _ _ => pg_name (i := 3) sc__law_name.nd rfl (Or.inl rfl)) (fun _ _ _ _ _ => pts_nil) (fun _ _ _ _ _ => (pe_ix ix_str (pv 1) (pe_op op_mod (pe_callTy call_intN (by rfl) T.n_int (by decide +kernel) (pa_cons (pe_op op_add (pe_ix (ixK_list (K := K) rfl) (pv 0) (pe_op op_mod (pv 3) pe_int) (fun _ _ => rfl)) (pe_op op_mul pe_int (pv 3))) pa_nil)) pe_int) (fun _ _ => rfl))))))))))), fun ds hd => ?_⟩
  obtain ⟨x, rfl, ds, rfl, hD, h5, h9⟩ := hd
  obtain ⟨d0, e0, b0⟩ := dr_ix hD (i := 0) (by omega) (by omega)
  obtain ⟨d1, e1, b1⟩ := dr_ix hD (i := 1) (by omega) (by omega)
  obtain ⟨d2, e2, b2⟩ := dr_ix hD (i := 2) (by omega) (by omega)
  walk_at "pn"
  walk_at "px"
  walk_at "pi"
  · intro h1
    walk_at "px"
    obtain ⟨x, ex, hx⟩ := lit_ix (xs := [.str "a", .str "b", .str "ab", .str "a0", .str "z9", .str "web"]) (i := d1 % 6) (by omega) (by show _ < (6 : Int); omega)
    walk_at "px"
    refine q1d ?_
    simp only [List.mem_cons, List.not_mem_nil, or_false] at hx
    rcases hx with rfl | rfl | rfl | rfl | rfl | rfl <;> exact ⟨by decide +kernel, fun z e => by cases e; decide +kernel⟩
  · intro h1
    walk_at "px"
    refine ws_cut Int (fun n => [.d (.list (ds.map .int)), .d (.str nameChs), .d (.int n), .u]) (fun n => 1 ≤ n ∧ n ≤ 12 ∧ n ≠ 11) ?_ fun n hn => ?_
    · walk_at "px"
      walk_at "pi"
      · intro h2
        walk_at "px"
        exact nxt 12 (by walk_at "wk") rfl (by decide)
      · intro h2
        walk_at "px"
        exact nxt (1 + d1 % 3) (by walk_at "wk") rfl (by omega)
    · walk_at "px"
      refine we_lcM (by walk_at "ww") rfl ?_
      walk_at "px"
      let g : Nat → Nat := fun k => nameChs.cps.toList.getD ((ds.getD (k % 5) 0 + 7 * (k : Int)) % 36).toNat 0
      have hg : ∀ k, g k ∈ nameChs.cps.toList := fun k => (str_ix (z := nameChs) (i := (ds.getD (k % 5) 0 + 7 * (k : Int)) % 36) (by omega) (by show _ < (36 : Int); omega)).2
      refine ⟨fun x => .str ⟨#[g (intOf x).toNat]⟩, by rw [nums_len]; omega, fun x hx => ?_, (List.range n.toNat).map fun j => (⟨#[g j]⟩ : Str), ?_, ?_, ?_⟩
      · obtain ⟨j, hj, rfl⟩ := nums_mem hx
        have e5 : atI (ds.map PyData.int) ((0 + (j : Int)) % 5) = some (.int (ds.getD (j % 5) 0)) := by
          have h := dr_getD (ds := ds) (k := (0 + (j : Int)) % 5) (by omega) (by omega)
          rwa [show ((0 + (j : Int)) % 5).toNat = j % 5 by omega] at h
        walk_at "pn"
        walk_at "px"
        refine opP_ixS (My.sz (by decide)) (str_ix (z := nameChs) (i := (ds.getD (j % 5) 0 + 7 * (0 + (j : Int))) % 36) (by omega) (by show _ < (36 : Int); omega)).1 ?_
        walk_at "px"
        show some _ = some [PyData.str ⟨#[g (0 + (j : Int)).toNat]⟩]
        rw [show (0 + (j : Int)).toNat = j by omega]
        show some [PyData.str ⟨#[nameChs.cps.toList.getD ((ds.getD (j % 5) 0 + 7 * (0 + (j : Int))) % 36).toNat 0]⟩] = _
        rw [Int.zero_add]
      · rw [nums_map, List.map_map]
        refine List.map_congr_left fun j _ => ?_
        show PyData.str ⟨#[g (0 + (j : Int)).toNat]⟩ = _
        rw [show (0 + (j : Int)).toNat = j by omega]
        rfl
      · rw [show ((List.range n.toNat).map fun j => (⟨#[g j]⟩ : Str)) = (((List.range n.toNat).map g).map fun c => (⟨#[c]⟩ : Str)) by rw [List.map_map]; rfl, sgn_sum, List.length_map, List.length_map, List.length_map, List.length_range]
        show n.toNat + n.toNat * 0 ≤ _
        omega
      · rw [show ((List.range n.toNat).map fun j => (⟨#[g j]⟩ : Str)) = (((List.range n.toNat).map g).map fun c => (⟨#[c]⟩ : Str)) by rw [List.map_map]; rfl, show (Str.ofString "") = ("" : Str) from rfl, sgn_join]
        have hl : (⟨((List.range n.toNat).map g).toArray⟩ : Str).length = n.toNat := by show Array.size _ = _; simp
        refine q1d ⟨?_, fun z e => by rw [← PyData.str.inj e, hl]; omega⟩
        show (decide (1 ≤ Str.length _) && decide (Str.length _ ≤ 12) && _) = true
        rw [hl, decide_eq_true (by omega : 1 ≤ n.toNat), decide_eq_true (by omega : n.toNat ≤ 12), Bool.true_and, Bool.true_and, List.all_eq_true]
        intro c hc
        simp only [List.mem_map, List.mem_range] at hc
        obtain ⟨k, _, rfl⟩ := hc
        exact decide_eq_true (hg k)
end
/-! cuts of draws -/
theorem cutD_from {xs : List PyData} (i : Nat) : cutD xs (some (i : Int)) none = xs.drop i := by
  unfold cutD
  rw [sIx_le]
  show ((xs.drop (min i xs.length)).take (xs.length - min i xs.length)) = _
  rw [List.take_of_length_le (by rw [List.length_drop]; omega)]
  by_cases h : i ≤ xs.length
  · rw [Nat.min_eq_left h]
  · rw [Nat.min_eq_right (show xs.length ≤ i by omega), List.drop_length, List.drop_eq_nil_of_le (by omega)]
theorem cutD_mid {xs : List PyData} (i j : Nat) : cutD xs (some (i : Int)) (some (j : Int)) = (xs.drop i).take (j - i) := by
  unfold cutD
  rw [sIx_le, sIx_le]
  by_cases h : i ≤ xs.length
  · rw [Nat.min_eq_left h]
    by_cases h2 : j ≤ xs.length
    · rw [Nat.min_eq_left h2]
    · rw [Nat.min_eq_right (show xs.length ≤ j by omega)]
      rw [List.take_of_length_le (by rw [List.length_drop]; omega), List.take_of_length_le (by rw [List.length_drop]; omega)]
  · rw [Nat.min_eq_right (show xs.length ≤ i by omega), List.drop_length, List.drop_eq_nil_of_le (by omega), List.take_nil, List.take_nil]
theorem drawn_drop {ds : List Int} (n : Nat) (h : Drawn ds) : Drawn (ds.drop n) := fun d hd => h d (List.mem_of_mem_drop hd)
theorem drL_from {ds : List Int} {n : Nat} (i : Nat) (hD : Drawn ds) (h : n + i ≤ ds.length) (h9 : ds.length ≤ 90000) : DrL n (.list (cutD (ds.map PyData.int) (some (i : Int)) none)) :=
  ⟨ds.drop i, by rw [cutD_from, List.map_drop], drawn_drop i hD, by rw [List.length_drop]; omega, by rw [List.length_drop]; omega⟩
theorem drL_mid {ds : List Int} {n : Nat} (i j : Nat) (hD : Drawn ds) (h : n + i ≤ j) (h2 : j ≤ ds.length) (h9 : ds.length ≤ 90000) : DrL n (.list (cutD (ds.map PyData.int) (some (i : Int)) (some (j : Int)))) :=
  ⟨(ds.drop i).take (j - i), by rw [cutD_mid, List.map_take, List.map_drop], drawn_take _ (drawn_drop i hD), by rw [List.length_take, List.length_drop]; omega, by rw [List.length_take, List.length_drop]; omega⟩
def lawChs : Str := " !\"#$&'()*+,-./0123456789:;<=>?@ABCXYZ[\\]^_`abcxyz{|}~"
theorem lawChs_ok : lawChs.length = 54 ∧ lawChs.cps.toList.all plainCh = true := by decide +kernel
section
variable {P : Program} {w : World} {K : PySem.W.Frag} {mg : Str → Option Value} {base : Heap}
theorem ok__law_text (T : TX K mg w) : FnOk P w K mg base CX0 1 T.a__law_text T.d__law_text ["draws"] (spP K (P1 (DrL 5)) (Q1 fun _ y => isTx y = true ∧ ∃ z, y = .str z)) := by
  refine okP T.F__law_text sc__law_text 3 rfl P1.len fun cdv A outer s H E hr => ⟨_, (pss_cons (ps_set (i := 1) sc__law_text.nd rfl (Or.inr rfl) pe_str)
      (pss_cons (ps_set (i := 2) sc__law_text.nd rfl (Or.inl rfl) (pe_op op_mod (pe_callTy call_intN (by rfl) T.n_int (by decide +kernel) (pa_cons (pe_ix (ixK_list (K := K) rfl) (pv 0) pe_int (fun _ _ => rfl)) pa_nil)) pe_int))
      (C8.pss_cut (ps_if (pt_cmpR op_eq (pe_op op_mod (pe_ix (ixK_list (K := K) rfl) (pv 0) pe_int (fun _ _ => rfl)) pe_int) pe_int (nomark _)) (pss_one (ps_set (i := 2) sc__law_text.nd rfl (Or.inl rfl) pe_int)) pss_nil)
      (pss_one (ps_ret (peK_join (K := K) rfl pe_str (pe_lc (own := [("k", 3)]) (g := gName 3) (tt := tYes) (by rfl) sc__law_text.nd (pi_range1 (by rfl) T.n_range (pa_cons (pv 2) pa_nil)) (blkOk_by (own := [("k", 3)]) (N := ["draws", "chars", "size", "k"]) (sc := defScope s__law_text) (by decide +kernel)) (fun _ _ _ _ _ => pg_name (i := 3) sc__law_text.nd rfl (Or.inl rfl)) (fun _ _ _ _ _ => pts_nil) (fun _ _ _ _ _ => (pe_ix ix_str (pv 1) (pe_op op_mod (pe_callTy call_intN (by rfl) T.n_int (by decide +kernel) (pa_cons (pe_op op_add (pe_ix (ixK_list (K := K) rfl) (pv 0) (pe_op op_mod (pv 3) pe_int) (fun _ _ => rfl)) (pe_op op_mul pe_int (pv 3))) pa_nil)) (pe_callB call_lenS (by rfl) T.n_len PySem.boot_len (pa_cons (pv 1) pa_nil))) (fun _ _ => rfl)))))))))), fun ds hd => ?_⟩
  obtain ⟨x, rfl, ds, rfl, hD, h5, h9⟩ := hd
  obtain ⟨d0, e0, b0⟩ := dr_ix hD (i := 0) (by omega) (by omega)
  obtain ⟨d1, e1, b1⟩ := dr_ix hD (i := 1) (by omega) (by omega)
  have hL := lawChs_ok.1
  walk_at "pn"
  walk_at "px"
  refine ws_cut Int (fun n => [.d (.list (ds.map .int)), .d (.str lawChs), .d (.int n), .u]) (fun n => 0 ≤ n ∧ n ≤ 40) ?_ fun n hn => ?_
  · walk_at "px"
    walk_at "pi"
    · intro h2
      walk_at "px"
      exact nxt 40 (by walk_at "wk") rfl (by decide)
    · intro h2
      walk_at "px"
      exact nxt (d0 % 6) (by walk_at "wk") rfl (by omega)
  · walk_at "px"
    refine we_lcM (by walk_at "ww") rfl ?_
    walk_at "px"
    let g : Nat → Nat := fun k => lawChs.cps.toList.getD ((ds.getD (k % 5) 0 + 11 * (k : Int)) % 54).toNat 0
    have hg : ∀ k, g k ∈ lawChs.cps.toList := fun k => (str_ix (z := lawChs) (i := (ds.getD (k % 5) 0 + 11 * (k : Int)) % 54) (by omega) (by rw [hL]; omega)).2
    refine ⟨fun x => .str ⟨#[g (intOf x).toNat]⟩, by rw [nums_len]; omega, fun x hx => ?_, (List.range n.toNat).map fun j => (⟨#[g j]⟩ : Str), ?_, ?_, ?_⟩
    · obtain ⟨j, hj, rfl⟩ := nums_mem hx
      have e5 : atI (ds.map PyData.int) ((0 + (j : Int)) % 5) = some (.int (ds.getD (j % 5) 0)) := by
        have h := dr_getD (ds := ds) (k := (0 + (j : Int)) % 5) (by omega) (by omega)
        rwa [show ((0 + (j : Int)) % 5).toNat = j % 5 by omega] at h
      walk_at "pn"
      walk_at "px"
      rw [hL]
      walk_at "px"
      refine opP_ixS (My.sz (by rw [hL]; decide)) (str_ix (z := lawChs) (i := (ds.getD (j % 5) 0 + 11 * (0 + (j : Int))) % (54 : Nat)) (by omega) (by rw [hL]; omega)).1 ?_
      walk_at "px"
      show some _ = some [PyData.str ⟨#[g (0 + (j : Int)).toNat]⟩]
      rw [show (0 + (j : Int)).toNat = j by omega]
      show some [PyData.str ⟨#[lawChs.cps.toList.getD ((ds.getD (j % 5) 0 + 11 * (0 + (j : Int))) % 54).toNat 0]⟩] = _
      rw [Int.zero_add]
    · rw [nums_map, List.map_map]
      refine List.map_congr_left fun j _ => ?_
      show PyData.str ⟨#[g (0 + (j : Int)).toNat]⟩ = _
      rw [show (0 + (j : Int)).toNat = j by omega]
      rfl
    · rw [show ((List.range n.toNat).map fun j => (⟨#[g j]⟩ : Str)) = (((List.range n.toNat).map g).map fun c => (⟨#[c]⟩ : Str)) by rw [List.map_map]; rfl, sgn_sum, List.length_map, List.length_map, List.length_map, List.length_range]
      show n.toNat + n.toNat * 0 ≤ _
      omega
    · rw [show ((List.range n.toNat).map fun j => (⟨#[g j]⟩ : Str)) = (((List.range n.toNat).map g).map fun c => (⟨#[c]⟩ : Str)) by rw [List.map_map]; rfl, show (Str.ofString "") = ("" : Str) from rfl, sgn_join]
      refine q1d ⟨?_, _, rfl⟩
      have hl : (⟨((List.range n.toNat).map g).toArray⟩ : Str).length = n.toNat := by show Array.size _ = _; simp
      show (decide (Str.length _ ≤ 40) && _) = true
      rw [hl, decide_eq_true (by omega : n.toNat ≤ 40), Bool.true_and, List.all_eq_true]
      intro c hc
      simp only [List.mem_map, List.mem_range] at hc
      obtain ⟨k, _, rfl⟩ := hc
      exact List.all_eq_true.mp lawChs_ok.2 _ (hg k)
theorem ok__law_zone (T : TX K mg w) : FnOk P w K mg base CX0 2 T.a__law_zone T.d__law_zone ["draws"] (spP K (P1 (DrL 6)) (Q1 fun _ y => isZo y = true ∧ ∃ z, y = .str z ∧ z.length ≤ 12)) := by
  refine okP T.F__law_zone sc__law_zone 0 rfl P1.len fun cdv A outer s H E hr => ⟨_, (pss_cons (ps_if (pt_cmpR op_eq (pe_op op_mod (pe_ix (ixK_list (K := K) rfl) (pv 0) pe_int (fun _ _ => rfl)) pe_int) pe_int (nomark _)) (pss_one (ps_ret pe_str)) pss_nil)
      (pss_one (ps_ret (pe_call (ok__law_name T) (hr.mono (by decide)) (by rfl) T.g__law_name T.F__law_name.kp T.b__law_name .nil pass0 (pa_cons (pe_slice (slKx_list (K := K) rfl) (pv 0) (po_some pe_int) po_none) pa_nil))))), fun ds hd => ?_⟩
  obtain ⟨x, rfl, ds, rfl, hD, h5, h9⟩ := hd
  obtain ⟨d0, e0, b0⟩ := dr_ix hD (i := 0) (by omega) (by omega)
  walk_at "pn"
  walk_at "px"
  walk_at "pi"
  · intro h1
    walk_at "px"
    exact q1d ⟨by decide +kernel, _, rfl, by decide +kernel⟩
  · intro h1
    walk_at "px"
    refine ⟨drL_from 1 hD (by omega) h9, fun y ⟨hy, _⟩ => q1d ⟨?_, ?_⟩⟩
    · unfold isZo
      rw [hy, Bool.or_true]
    · cases y with
      | str z =>
        refine ⟨z, rfl, ?_⟩
        have : (decide (1 ≤ z.length) && decide (z.length ≤ 12) && _) = true := hy
        rw [Bool.and_eq_true, Bool.and_eq_true] at this
        exact of_decide_eq_true this.1.2
      | _ => cases hy
end
/-! open numbers, keys, values -/
theorem openFrom_app : ∀ {xs : List PyData} {l k : Int}, openFrom l xs = true → (∀ x ∈ xs, intOf x < k) → l ≤ k → k ≤ 9 → openFrom l (xs ++ [.int k]) = true
  | [], l, k, _, _, h1, h2 => by
    show (intIn (.int k) l 9 && true) = true
    show ((decide (l ≤ k) && decide (k ≤ 9)) && true) = true
    rw [decide_eq_true h1, decide_eq_true h2]; rfl
  | x :: xs, l, k, h, hx, h1, h2 => by
    have h' : (intIn x l 9 && openFrom (intOf x + 1) xs) = true := h
    rw [Bool.and_eq_true] at h'
    show (intIn x l 9 && openFrom (intOf x + 1) (xs ++ [.int k])) = true
    have := hx x List.mem_cons_self
    rw [h'.1, openFrom_app h'.2 (fun y hy => hx y (List.mem_cons_of_mem _ hy)) (by omega) h2]; rfl
theorem digit_ok {d : Int} (h0 : 0 ≤ d) (h1 : d < 10) : ∃ c, (toString d : Str) = ⟨#[c]⟩ ∧ c ∈ digChs.cps.toList := by
  have z : ∀ j : Nat, j < 10 → ((toString (j : Int) : Str).cps.size = 1 ∧ (toString (j : Int) : Str).cps.toList.getD 0 0 ∈ digChs.cps.toList) := by decide +kernel
  obtain ⟨e1, e2⟩ := z d.toNat (by omega)
  rw [Int.toNat_of_nonneg h0] at e1 e2
  refine ⟨_, ?_, e2⟩
  generalize (toString d : Str) = w at e1 ⊢
  obtain ⟨⟨l⟩⟩ := w
  match l, e1 with
  | [c], _ => rfl
theorem isSl_make {z : Str} {c : Nat} (h : isNm (.str z) = true) (hc : c ∈ digChs.cps.toList) : isSl (.str (z ++ "/" ++ ⟨#[c]⟩)) = true := by
  have h' : (decide (1 ≤ z.length) && decide (z.length ≤ 12) && z.cps.toList.all fun c => decide (c ∈ nameChs.cps.toList)) = true := h
  rw [Bool.and_eq_true, Bool.and_eq_true] at h'
  have h1 := of_decide_eq_true h'.1.1
  have hz := z_len z
  have el : (z ++ "/" ++ ⟨#[c]⟩ : Str).cps.toList = z.cps.toList ++ [47, c] := by
    show (z.cps ++ ("/" : Str).cps ++ #[c]).toList = _
    have : ("/" : Str).cps = #[47] := by decide +kernel
    rw [this]; simp
  have en : (z ++ "/" ++ ⟨#[c]⟩ : Str).length = z.length + 2 := by rw [← z_len, el, List.length_append, hz]; rfl
  have ec : cutS (z ++ "/" ++ ⟨#[c]⟩ : Str) none (some (-2)) = z := by
    unfold cutS
    rw [en, el]
    show (⟨((List.take ((-2 + ((z.length + 2 : Nat) : Int)).toNat - 0) ((z.cps.toList ++ [47, c]).drop 0))).toArray⟩ : Str) = z
    rw [show (-2 + ((z.length + 2 : Nat) : Int)).toNat - 0 = z.length by omega, List.drop_zero, List.take_append_of_le_length (by omega), List.take_of_length_le (by omega)]
  show (decide (3 ≤ Str.length _) && _) = true
  rw [en, decide_eq_true (by omega : 3 ≤ z.length + 2), Bool.true_and, ec, h, Bool.and_true, el]
  have e1 : (z.cps.toList ++ [47, c]).getD (z.length + 2 - 1) 0 = c := by
    rw [List.getD_eq_getElem?_getD, List.getElem?_append_right (by omega), hz, show z.length + 2 - 1 - z.length = 1 by omega]; rfl
  have e2 : (z.cps.toList ++ [47, c]).getD (z.length + 2 - 2) 0 = 47 := by
    rw [List.getD_eq_getElem?_getD, List.getElem?_append_right (by omega), hz, show z.length + 2 - 2 - z.length = 0 by omega]; rfl
  rw [e1, e2, decide_eq_true hc]
  rfl
section
variable {P : Program} {w : World} {K : PySem.W.Frag} {mg : Str → Option Value} {base : Heap}
theorem ok__law_open (T : TX K mg w) : FnOk P w K mg base CX0 1 T.a__law_open T.d__law_open ["draw"] (spP K (P1 fun x => ∃ i, x = .int i) (Q1 fun _ y => isOpN y = true)) := by
  refine okP T.F__law_open sc__law_open 3 rfl P1.len fun cdv A outer s H E hr => ⟨_, (pss_cons (ps_set (i := 1) sc__law_open.nd rfl (Or.inl rfl) (pe_tup pa_nil))
      (pss_cons (ps_set (i := 2) sc__law_open.nd rfl (Or.inl rfl) (pe_callTy call_intN (by rfl) T.n_int (by decide +kernel) (pa_cons (pv 0) pa_nil)))
      (pss_cons (ps_for PassesOwn.never rfl (pi_range1 (by rfl) T.n_range (pa_cons pe_int pa_nil)) (pg_name (i := 3) sc__law_open.nd rfl (Or.inl rfl))
        (pss_cons (ps_if (pt_cmpR op_eq (pe_op op_mod (pv 2) pe_int) pe_int (nomark _)) (pss_one (ps_set (i := 1) sc__law_open.nd rfl (Or.inl rfl) (pe_op (opK_catA (K := K) rfl) (pv 1) (pe_tup (pa_cons (pv 3) pa_nil))))) pss_nil)
        (pss_one (ps_set (i := 2) sc__law_open.nd rfl (Or.inl rfl) (pe_op op_fdiv (pv 2) pe_int)))))
      (pss_one (ps_ret (pv 1)))))), fun ds hd => ?_⟩
  obtain ⟨x, rfl, i, rfl⟩ := hd
  walk_at "pn"
  walk_at "px"
  refine ws_for ?_
  walk_at "px"
  refine ⟨List PyData × Int, fun s => [.d (.int i), .d (.tuple s.1), .d (.int s.2), .u], fun _ => (), fun j s => openFrom 0 s.1 = true ∧ s.1.length ≤ j ∧ ∀ x ∈ s.1, intOf x < j, nxt ([], i) (by walk_at "wk") rfl ⟨rfl, Nat.le_refl _, fun _ h => by cases h⟩, fun j x s hx hI => ?_, fun s hI => ?_⟩
  · obtain ⟨hj, rfl⟩ := nums_at hx
    obtain ⟨xs, r⟩ := s
    obtain ⟨i1, i2, i3⟩ := hI
    have hj' : j < 10 := hj
    have i2' : xs.length ≤ j := i2
    walk_at "px"
    walk_at "pi"
    · intro h1
      walk_at "px"
      try (refine opP_catT (by show xs.length + 1 ≤ _; omega) ?_)
      walk_at "px"
      refine nxt (xs ++ [.int (0 + (j : Int))], r / 2) (by walk_at "wk") rfl ⟨openFrom_app i1 (fun x hx => by have := i3 x hx; omega) (by omega) (by omega), by rw [List.length_append]; show xs.length + 1 ≤ _; omega, fun x hx => ?_⟩
      rcases List.mem_append.mp hx with h | h
      · have := i3 x h; omega
      · rw [List.mem_singleton.mp h]; show (0 + (j : Int)) < _; omega
    · intro h1
      walk_at "px"
      exact nxt (xs, r / 2) (by walk_at "wk") rfl ⟨i1, by show xs.length ≤ _; omega, fun x hx => by have := i3 x hx; omega⟩
  · walk_at "px"
    exact q1d hI.1
theorem ok__law_key (T : TX K mg w) : FnOk P w K mg base CX0 2 T.a__law_key T.d__law_key ["draws"] (spP K (P1 (DrL 7)) (Q1 fun _ y => ∃ k n, y = .tuple [.str k, .str n] ∧ isKy (.str k) (.str n) = true ∧ n.length ≠ 13)) := by
  refine okP T.F__law_key sc__law_key 2 rfl P1.len fun cdv A outer s H E hr => ⟨_, (pss_cons (ps_set (i := 1) sc__law_key.nd rfl (Or.inl rfl) (pe_ix (ixK_list (K := K) rfl) (pe_lst (pa_cons pe_str (pa_cons pe_str (pa_cons pe_str (pa_cons pe_str (pa_cons pe_str (pa_cons pe_str (pa_cons pe_str pa_nil)))))))) (pe_op op_mod (pe_callTy call_intN (by rfl) T.n_int (by decide +kernel) (pa_cons (pe_ix (ixK_list (K := K) rfl) (pv 0) pe_int (fun _ _ => rfl)) pa_nil)) pe_int) (fun _ _ => rfl)))
      (pss_cons (ps_set (i := 2) sc__law_key.nd rfl (Or.inl rfl) (pe_call (ok__law_name T) (hr.mono (by decide)) (by rfl) T.g__law_name T.F__law_name.kp T.b__law_name .nil pass0 (pa_cons (pe_slice (slKx_list (K := K) rfl) (pv 0) (po_some pe_int) po_none) pa_nil)))
      (pss_cons (ps_if (pt_cmpR op_eq (pv 1) pe_str (nomark _)) (pss_one (ps_set (i := 2) sc__law_key.nd rfl (Or.inl rfl) (pe_op op_addS (pe_op op_addS (pv 2) pe_str) (pe_callTy call_strN (by rfl) T.n_str (by decide +kernel) (pa_cons (pe_op op_mod (pe_callTy call_intN (by rfl) T.n_int (by decide +kernel) (pa_cons (pe_ix (ixK_list (K := K) rfl) (pv 0) pe_int (fun _ _ => rfl)) pa_nil)) pe_int) pa_nil))))) pss_nil)
      (pss_one (ps_ret (pe_tup (pa_cons (pv 1) (pa_cons (pv 2) pa_nil)))))))), fun ds hd => ?_⟩
  obtain ⟨x, rfl, ds, rfl, hD, h5, h9⟩ := hd
  obtain ⟨d0, e0, b0⟩ := dr_ix hD (i := 0) (by omega) (by omega)
  obtain ⟨d6, e6, b6⟩ := dr_ix hD (i := 6) (by omega) (by omega)
  obtain ⟨kd, ek, hk⟩ := lit_ix (xs := kindsD) (i := d0 % 7) (by omega) (by show _ < (7 : Int); omega)
  have ek' : atI [PyData.str "beat", .str "drain", .str "node", .str "note", .str "rollout", .str "service", .str "task"] (d0 % 7) = some kd := ek
  obtain ⟨z, hz, rfl⟩ : ∃ z ∈ kindNames, kd = .str z := by
    simp only [kindsD, List.mem_cons, List.not_mem_nil, or_false] at hk
    rcases hk with rfl | rfl | rfl | rfl | rfl | rfl | rfl <;> exact ⟨_, by decide, rfl⟩
  walk_at "pn"
  walk_at "px"
  refine ⟨drL_from 1 hD (by omega) h9, fun y ⟨hy, h11⟩ => ?_⟩
  obtain ⟨n, rfl⟩ : ∃ n, y = .str n := by cases y with | str n => exact ⟨n, rfl⟩ | _ => cases hy
  have hn : n.length ≤ 12 := by
    have : (decide (1 ≤ n.length) && decide (n.length ≤ 12) && _) = true := hy
    rw [Bool.and_eq_true, Bool.and_eq_true] at this
    exact of_decide_eq_true this.1.2
  walk_at "px"
  walk_at "pi"
  · intro h1
    walk_at "px"
    obtain ⟨c, ec, hc⟩ := digit_ok (d := d6 % 10) (by omega) (by omega)
    refine opP_addS (My.sz (by show n.length + 1 ≤ _; omega)) ?_
    walk_at "px"
    refine cbP_strI (log_small (by omega)) ?_
    walk_at "px"
    rw [show (PyData.str (toString (d6 % 10))) = .str ⟨#[c]⟩ from congrArg PyData.str ec]
    refine opP_addS (My.sz (by show (n ++ "/" : Str).length + 1 ≤ _; have : (n ++ "/" : Str).length = n.length + 1 := by { show (n.cps ++ ("/" : Str).cps).size = _; rw [Array.size_append]; rfl }; omega)) ?_
    walk_at "px"
    refine q1d ⟨z, _, rfl, ?_, ?_⟩
    rotate_left
    · have e2 : (n ++ "/" ++ ⟨#[c]⟩ : Str).length = n.length + 2 := by
        show (n.cps ++ ("/" : Str).cps ++ #[c]).size = _
        rw [Array.size_append, Array.size_append]
        rfl
      have := h11 n rfl
      show (n ++ "/" ++ ⟨#[c]⟩ : Str).length ≠ 13
      omega
    unfold isKy
    rw [if_pos (by rw [h1]; rfl)]
    exact isSl_make hy hc
  · intro h1
    walk_at "px"
    refine q1d ⟨z, n, rfl, ?_, by omega⟩
    unfold isKy
    have : (PyData.str z).eqv (.str "task") = false := by unfold PyData.eqv; rw [beq_eq_false_iff_ne]; exact h1
    rw [if_neg (by rw [this]; exact Bool.false_ne_true), hy, Bool.and_true, List.any_eq_true]
    exact ⟨.str z, hk, by unfold PyData.eqv; rw [beq_self_eq_true]⟩
theorem worth_at {kd : Str} (hk : kd ∈ kindNames) (h1 : kd ≠ "beat") (h2 : kd ≠ "drain") (h3 : kd ≠ "node") (h4 : kd ≠ "note") (h5 : kd ≠ "rollout") (h6 : kd ≠ "service") : formOf kd = fTask := by
  unfold formOf
  rw [if_neg h1, if_neg h2, if_neg h3, if_neg h4, if_neg h5, if_neg h6]
theorem ct_draw {d : Int} (h : 0 ≤ d ∧ d < 997) : isCt (.int d) = true := by
  show (decide (0 ≤ d) && decide (d ≤ 1000000000000)) = true
  rw [decide_eq_true h.1, decide_eq_true (by omega)]; rfl
theorem in_dec {d lo hi : Int} (h : lo ≤ d ∧ d ≤ hi) : intIn (.int d) lo hi = true := by
  show (decide (lo ≤ d) && decide (d ≤ hi)) = true
  rw [decide_eq_true h.1, decide_eq_true h.2]; rfl
theorem ok__law_worth (T : TX K mg w) : FnOk P w K mg base CX0 3 T.a__law_worth T.d__law_worth ["kind", "draws"] (spP K (P2 fun k d => (∃ z ∈ kindNames, k = .str z) ∧ DrL 12 d) (Q2 fun k _ y => ∀ z, k = .str z → formOf z y = true ∧ ∃ xs, y = .tuple xs)) := by
  refine okP T.F__law_worth sc__law_worth 2 rfl P2.len fun cdv A outer s H E hr => ⟨_, (pss_cons (ps_set (i := 2) sc__law_worth.nd rfl (Or.inl rfl) (pe_call (ok__law_text T) (hr.mono (by decide)) (by rfl) T.g__law_text T.F__law_text.kp T.b__law_text .nil pass0 (pa_cons (pe_slice (slKx_list (K := K) rfl) (pv 1) (po_some pe_int) po_none) pa_nil)))
      (pss_cons (ps_if (pt_cmpR op_eq (pv 0) pe_str (nomark _)) (pss_one (ps_ret (pe_tup (pa_cons (pe_ix (ixK_list (K := K) rfl) (pv 1) pe_int (fun _ _ => rfl)) (pa_cons (pe_ix (ixK_list (K := K) rfl) (pv 1) pe_int (fun _ _ => rfl)) pa_nil))))) pss_nil)
      (pss_cons (ps_if (pt_cmpR op_eq (pv 0) pe_str (nomark _)) (pss_one (ps_ret (pe_tup (pa_cons (pv 2) pa_nil)))) pss_nil)
      (pss_cons (ps_if (pt_cmpR op_eq (pv 0) pe_str (nomark _)) (pss_one (ps_ret (pe_tup (pa_cons (pe_ix (ixK_list (K := K) rfl) (pv 1) pe_int (fun _ _ => rfl)) (pa_cons (pe_ix (ixK_list (K := K) rfl) (pv 1) pe_int (fun _ _ => rfl)) (pa_cons (pe_ix (ixK_list (K := K) rfl) (pv 1) pe_int (fun _ _ => rfl)) (pa_cons (pe_op op_mod (pe_ix (ixK_list (K := K) rfl) (pv 1) pe_int (fun _ _ => rfl)) pe_int) (pa_cons (pe_call (ok__law_zone T) (hr.mono (by decide)) (by rfl) T.g__law_zone T.F__law_zone.kp T.b__law_zone .nil pass0 (pa_cons (pe_slice (slKx_list (K := K) rfl) (pv 1) (po_some pe_int) po_none) pa_nil)) pa_nil)))))))) pss_nil)
      (pss_cons (ps_if (pt_cmpR op_eq (pv 0) pe_str (nomark _)) (pss_cons (ps_if (pt_cmpR op_eq (pe_op op_mod (pe_ix (ixK_list (K := K) rfl) (pv 1) pe_int (fun _ _ => rfl)) pe_int) pe_int (nomark _)) (pss_one (ps_ret (pe_tup (pa_cons (pv 2) (pa_cons pe_str (pa_cons pe_str (pa_cons (pe_ix (ixK_list (K := K) rfl) (pv 1) pe_int (fun _ _ => rfl)) pa_nil))))))) pss_nil)
        (pss_one (ps_ret (pe_op (opK_catA (K := K) rfl) (pe_op (opK_catA (K := K) rfl) (pe_tup (pa_cons (pv 2) pa_nil)) (pe_call (ok__law_key T) (hr.mono (by decide)) (by rfl) T.g__law_key T.F__law_key.kp T.b__law_key .nil pass0 (pa_cons (pe_slice (slKx_list (K := K) rfl) (pv 1) (po_some pe_int) po_none) pa_nil))) (pe_tup (pa_cons (pe_ix (ixK_list (K := K) rfl) (pv 1) pe_int (fun _ _ => rfl)) pa_nil)))))) pss_nil)
      (pss_cons (ps_if (pt_cmpR op_eq (pv 0) pe_str (nomark _)) (pss_one (ps_ret (pe_tup (pa_cons (pe_ix (ixK_list (K := K) rfl) (pv 1) pe_int (fun _ _ => rfl)) (pa_cons (pe_call (ok__law_open T) (hr.mono (by decide)) (by rfl) T.g__law_open T.F__law_open.kp T.b__law_open .nil pass0 (pa_cons (pe_op op_add (pe_ix (ixK_list (K := K) rfl) (pv 1) pe_int (fun _ _ => rfl)) (pe_ix (ixK_list (K := K) rfl) (pv 1) pe_int (fun _ _ => rfl))) pa_nil)) pa_nil))))) pss_nil)
      (pss_cons (ps_if (pt_cmpR op_eq (pv 0) pe_str (nomark _)) (pss_one (ps_ret (pe_tup (pa_cons (pe_op op_mod (pe_ix (ixK_list (K := K) rfl) (pv 1) pe_int (fun _ _ => rfl)) pe_int) (pa_cons (pv 2) (pa_cons (pe_ix (ixK_list (K := K) rfl) (pv 1) pe_int (fun _ _ => rfl)) (pa_cons (pe_op op_add pe_int (pe_op op_mod (pe_ix (ixK_list (K := K) rfl) (pv 1) pe_int (fun _ _ => rfl)) pe_int)) (pa_cons (pe_call (ok__law_zone T) (hr.mono (by decide)) (by rfl) T.g__law_zone T.F__law_zone.kp T.b__law_zone .nil pass0 (pa_cons (pe_slice (slKx_list (K := K) rfl) (pv 1) (po_some pe_int) po_none) pa_nil)) pa_nil)))))))) pss_nil)
      (pss_cons (ps_set (i := 3) sc__law_worth.nd rfl (Or.inl rfl) (pe_ix (ixK_list (K := K) rfl) (pe_lst (pa_cons pe_str (pa_cons pe_str (pa_cons pe_str (pa_cons pe_str pa_nil))))) (pe_op op_mod (pe_callTy call_intN (by rfl) T.n_int (by decide +kernel) (pa_cons (pe_ix (ixK_list (K := K) rfl) (pv 1) pe_int (fun _ _ => rfl)) pa_nil)) pe_int) (fun _ _ => rfl)))
      (pss_one (ps_ret (pe_tup (pa_cons (pe_ix (ixK_list (K := K) rfl) (pv 1) pe_int (fun _ _ => rfl)) (pa_cons (pv 2) (pa_cons (pe_ix (ixK_list (K := K) rfl) (pv 1) pe_int (fun _ _ => rfl)) (pa_cons (pv 3) (pa_cons (pe_op op_mod (pe_ix (ixK_list (K := K) rfl) (pv 1) pe_int (fun _ _ => rfl)) pe_int) (pa_cons (pe_call (ok__law_zone T) (hr.mono (by decide)) (by rfl) T.g__law_zone T.F__law_zone.kp T.b__law_zone .nil pass0 (pa_cons (pe_slice (slKx_list (K := K) rfl) (pv 1) (po_some pe_int) po_none) pa_nil)) (pa_cons (pe_ix (ixK_list (K := K) rfl) (pv 1) pe_int (fun _ _ => rfl)) (pa_cons (pe_call (ok__law_zone T) (hr.mono (by decide)) (by rfl) T.g__law_zone T.F__law_zone.kp T.b__law_zone .nil pass0 (pa_cons (pe_slice (slKx_list (K := K) rfl) (pv 1) (po_some pe_int) po_none) pa_nil)) pa_nil))))))))))))))))))), fun ds hd => ?_⟩
  obtain ⟨k, x, rfl, ⟨kd, hk, rfl⟩, ds, rfl, hD, h5, h9⟩ := hd
  obtain ⟨d0, e0, b0⟩ := dr_ix hD (i := 0) (by omega) (by omega)
  obtain ⟨d1, e1, b1⟩ := dr_ix hD (i := 1) (by omega) (by omega)
  obtain ⟨d2, e2, b2⟩ := dr_ix hD (i := 2) (by omega) (by omega)
  obtain ⟨d3, e3, b3⟩ := dr_ix hD (i := 3) (by omega) (by omega)
  obtain ⟨d4, e4, b4⟩ := dr_ix hD (i := 4) (by omega) (by omega)
  have fin : ∀ {v : PyData}, formOf kd v = true → (∃ xs, v = .tuple xs) → Q2 (fun k _ y => ∀ z, k = .str z → formOf z y = true ∧ ∃ xs, y = .tuple xs) [.str kd, .list (ds.map .int)] (.d v) ∧ isDo (.d v) := fun h h2 => q2d fun z e => by cases e; exact ⟨h, h2⟩
  walk_at "pn"
  walk_at "px"
  refine ⟨drL_from 3 hD (by omega) h9, fun t ⟨ht, tz, etz⟩ => ?_⟩
  subst etz
  walk_at "px"
  walk_at "pi"
  · intro h
    walk_at "px"
    subst h
    refine fin ?_ ⟨_, rfl⟩
    show (isCt (.int d0) && isCt (.int d1)) = true
    rw [ct_draw b0, ct_draw b1]; rfl
  intro n1
  walk_at "px"
  walk_at "pi"
  · intro h
    walk_at "px"
    subst h
    exact fin ht ⟨_, rfl⟩
  intro n2
  walk_at "px"
  walk_at "pi"
  · intro h
    walk_at "px"
    refine ⟨drL_from 4 hD (by omega) h9, fun z ⟨hz, _⟩ => ?_⟩
    walk_at "px"
    subst h
    refine fin ?_ ⟨_, rfl⟩
    show (isCt (.int d0) && (isCt (.int d1) && (isCt (.int d2) && (intIn (.int (d3 % 2)) 0 1 && isZo z)))) = true
    rw [ct_draw b0, ct_draw b1, ct_draw b2, in_dec (by omega), hz]; rfl
  intro n3
  walk_at "px"
  walk_at "pi"
  · intro h
    walk_at "px"
    subst h
    walk_at "pi"
    · intro h
      walk_at "px"
      refine fin ?_ ⟨_, rfl⟩
      show (isTx (.str tz) && (isCt (.int d1) && _)) = true
      rw [ht, ct_draw b1]; rfl
    · intro h
      walk_at "px"
      refine ⟨drL_from 1 hD (by omega) h9, fun y ⟨k, n, e, hy, _⟩ => ?_⟩
      subst e
      walk_at "px"
      try (refine opP_catT (Nat.le_of_ble_eq_true rfl) ?_)
      walk_at "px"
      try (refine opP_catT (Nat.le_of_ble_eq_true rfl) ?_)
      walk_at "px"
      refine fin ?_ ⟨_, rfl⟩
      show (isTx (.str tz) && (isCt (.int d1) && (_ || isKy (.str k) (.str n)))) = true
      rw [ht, ct_draw b1, hy, Bool.or_true]; rfl
  intro n4
  walk_at "px"
  walk_at "pi"
  · intro h
    walk_at "px"
    refine fun y hy => ?_
    walk_at "px"
    subst h
    refine fin ?_ ⟨_, rfl⟩
    show (isCt (.int d0) && isOpN y) = true
    rw [ct_draw b0, hy]; rfl
  intro n5
  walk_at "px"
  walk_at "pi"
  · intro h
    walk_at "px"
    refine ⟨drL_from 4 hD (by omega) h9, fun z ⟨hz, _⟩ => ?_⟩
    walk_at "px"
    subst h
    refine fin ?_ ⟨_, rfl⟩
    show (intIn (.int (d0 % 10)) 0 9 && (intIn (.int (1 + d2 % 9)) 1 9 && (isTx (.str tz) && (isCt (.int d1) && isZo z)))) = true
    rw [in_dec (by omega), in_dec (by omega), ht, ct_draw b1, hz]; rfl
  intro n6
  walk_at "px"
  obtain ⟨st, es, hs⟩ := lit_ix (xs := statesD) (i := d0 % 4) (by omega) (by show _ < (4 : Int); omega)
  have es' : atI [PyData.str "new", .str "bound", .str "running", .str "ended"] (d0 % 4) = some st := es
  walk_at "px"
  refine ⟨drL_from 5 hD (by omega) h9, fun z1 ⟨hz1, _⟩ => ?_⟩
  walk_at "px"
  refine ⟨drL_from 6 hD (by omega) h9, fun z2 ⟨hz2, _⟩ => ?_⟩
  walk_at "px"
  refine fin ?_ ⟨_, rfl⟩
  rw [worth_at hk n1 n2 n3 n4 n5 n6]
  have hst : (statesD.any fun z => z.eqv st) = true := by
    rw [List.any_eq_true]
    refine ⟨st, hs, ?_⟩
    simp only [statesD, List.mem_cons, List.not_mem_nil, or_false] at hs
    rcases hs with rfl | rfl | rfl | rfl <;> (unfold PyData.eqv; rw [beq_self_eq_true])
  show (isCt (.int d1) && (isCt (.int d2) && (isCt (.int d4) && (isTx (.str tz) && (isZo z1 && (isZo z2 && ((statesD.any fun z => z.eqv st) && intIn (.int (d3 % 2)) 0 1))))))) = true
  rw [ct_draw b1, ct_draw b2, ct_draw b4, ht, hz1, hz2, hst, in_dec (by omega)]
  rfl
end
/-! transactions -/
def isTupN (x y : PyData) : Bool := match x with
  | .tuple xs => decide ((xs.length : Int) = intOf y)
  | _ => false
def isCond : PyData → Bool
  | .tuple [k, n, r] => isKy k n && isCt r
  | _ => false
def isPut : PyData → Bool
  | .tuple [k, n, v] => isObj k n v
  | _ => false
def isDel : PyData → Bool
  | .tuple [k, n] => isKy k n
  | _ => false
def keyOf : PyData → List Key
  | .tuple [.str a, .str b] => [.inr a, .inr b]
  | _ => []
def distD (ks : List PyData) : Bool := decide ((ks.map keyOf).Nodup)
def is2S (k : PyData) : Prop := ∃ a b, k = .tuple [.str a, .str b]
theorem valV_mem {kvs : List (List Key × V)} {k : List Key} : (valV kvs k).isSome = true ↔ k ∈ kvs.map Prod.fst := by
  unfold valV
  rw [Option.isSome_map, List.find?_isSome, List.mem_map]
  constructor
  · rintro ⟨x, h1, h2⟩; exact ⟨x, h1, of_decide_eq_true h2⟩
  · rintro ⟨x, h1, h2⟩; exact ⟨x, h1, decide_eq_true h2⟩
theorem putK_new {kvs : List (List Key × V)} {k : List Key} {v : V} (h : k ∉ kvs.map Prod.fst) : putK kvs k v = kvs ++ [(k, v)] := by
  unfold putK
  rw [if_neg]
  intro h2
  rw [List.any_eq_true] at h2
  obtain ⟨x, h3, h4⟩ := h2
  exact h (List.mem_map.mpr ⟨x, h3, of_decide_eq_true h4⟩)
section
variable {P : Program} {w : World} {K : PySem.W.Frag} {mg : Str → Option Value} {base : Heap}
theorem ok__is_tuple_of (T : TX K mg w) : FnOk P w K mg base CX0 1 T.a__is_tuple_of T.d__is_tuple_of ["value", "size"] (spP K (P2 fun x y => ∃ n, y = .int n) (R2' fun x y => .bool (isTupN x y))) := by
  refine okP T.F__is_tuple_of sc__is_tuple_of 0 rfl P2.len fun cdv A outer s H E hr => ⟨_, (pss_one (ps_ret (pe_and (pe_callB (callK_isi (K := K) rfl) (by rfl) T.n_isinstance (by decide +kernel) (pa_cons (pv 0) (pa_cons (pe_bltn (v := .ty "tuple") (u := .type "tuple") (by rfl) T.n_tuple (by decide +kernel) rfl) pa_nil))) (pe_one (pe_cmpR op_eq (pe_callB (callK_len (K := K) rfl) (by rfl) T.n_len PySem.boot_len (pa_cons (pv 0) pa_nil)) (pv 1) (nomark _)))))), fun ds hd => ?_⟩
  obtain ⟨x, y, rfl, n, rfl⟩ := hd
  walk_at "pn"
  cases x
  all_goals walk_at "px"
  all_goals walk_at "pr"
theorem ok__is_condition (T : TX K mg w) : FnOk P w K mg base CX0 4 T.a__is_condition T.d__is_condition ["condition"] (spP K (P1 fun x => okx 8 x = true) (R1 fun x => .bool (isCond x))) := by
  refine okP T.F__is_condition sc__is_condition 0 rfl P1.len fun cdv A outer s H E hr => ⟨_, (pss_one (ps_ret (pe_and (pe_call (ok__is_tuple_of T) (hr.mono (by decide)) (by rfl) T.g__is_tuple_of T.F__is_tuple_of.kp T.b__is_tuple_of .nil pass0 (pa_cons (pv 0) (pa_cons pe_int pa_nil))) (pe_and (pe_call (ok_is_key T) (hr.mono (by decide)) (by rfl) T.g_is_key T.F_is_key.kp T.b_is_key .nil pass0 (pa_cons (pe_ix (ixK_tup (K := K) rfl) (pv 0) pe_int (fun _ _ => rfl)) (pa_cons (pe_ix (ixK_tup (K := K) rfl) (pv 0) pe_int (fun _ _ => rfl)) pa_nil))) (pe_one (pe_call (ok_is_count T) (hr.mono (by decide)) (by rfl) T.g_is_count T.F_is_count.kp T.b_is_count .nil pass0 (pa_cons (pe_ix (ixK_tup (K := K) rfl) (pv 0) pe_int (fun _ _ => rfl)) pa_nil))))))), fun ds hd => ?_⟩
  obtain ⟨x, rfl, hx⟩ := hd
  walk_at "pn"
  cases x
  case tuple xs =>
    by_cases hl : xs.length = 3
    · match xs, hl with
      | [a, b, c], _ =>
        have ha := okx_tup hx (x := a) (by simp)
        have hb := okx_tup hx (x := b) (by simp)
        walk_at "pw"
        all_goals (refine r1d ?_; show _ = PyData.bool (isCond (.tuple [a, b, c])); simp_all [isCond, isTupN, intOf])
    · have e : isCond (.tuple xs) = false := by
        unfold isCond
        split
        · rename_i h; injection h with h; rw [h] at hl; simp at hl
        · rfl
      have e2 : isTupN (.tuple xs) (.int 3) = false := decide_eq_false (by show ¬ (xs.length : Int) = 3; omega)
      walk_at "px"
      rw [e2]
      walk_at "px"
      refine r1d ?_
      rw [e]
  all_goals walk_at "px"
  all_goals walk_at "pr"
theorem ok__is_put (T : TX K mg w) : FnOk P w K mg base CX0 6 T.a__is_put T.d__is_put ["put"] (spP K (P1 fun x => okx 8 x = true) (R1 fun x => .bool (isPut x))) := by
  refine okP T.F__is_put sc__is_put 0 rfl P1.len fun cdv A outer s H E hr => ⟨_, (pss_one (ps_ret (pe_and (pe_call (ok__is_tuple_of T) (hr.mono (by decide)) (by rfl) T.g__is_tuple_of T.F__is_tuple_of.kp T.b__is_tuple_of .nil pass0 (pa_cons (pv 0) (pa_cons pe_int pa_nil))) (pe_one (pe_call (ok_is_object T) (hr.mono (by decide)) (by rfl) T.g_is_object T.F_is_object.kp T.b_is_object .nil pass0 (pa_cons (pe_ix (ixK_tup (K := K) rfl) (pv 0) pe_int (fun _ _ => rfl)) (pa_cons (pe_ix (ixK_tup (K := K) rfl) (pv 0) pe_int (fun _ _ => rfl)) (pa_cons (pe_ix (ixK_tup (K := K) rfl) (pv 0) pe_int (fun _ _ => rfl)) pa_nil)))))))), fun ds hd => ?_⟩
  obtain ⟨x, rfl, hx⟩ := hd
  walk_at "pn"
  cases x
  case tuple xs =>
    by_cases hl : xs.length = 3
    · match xs, hl with
      | [a, b, c], _ =>
        have ha := okx_tup hx (x := a) (by simp)
        have hb := okx_tup hx (x := b) (by simp)
        have hc := okx_tup hx (x := c) (by simp)
        walk_at "pw"
        all_goals (refine r1d ?_; show _ = PyData.bool (isPut (.tuple [a, b, c])); simp_all [isPut, isTupN, intOf])
    · have e : isPut (.tuple xs) = false := by
        unfold isPut
        split
        · rename_i h; injection h with h; rw [h] at hl; simp at hl
        · rfl
      have e2 : isTupN (.tuple xs) (.int 3) = false := decide_eq_false (by show ¬ (xs.length : Int) = 3; omega)
      walk_at "px"
      rw [e2]
      walk_at "px"
      refine r1d ?_
      rw [e]
  all_goals walk_at "px"
  all_goals walk_at "pr"
theorem ok__is_delete (T : TX K mg w) : FnOk P w K mg base CX0 4 T.a__is_delete T.d__is_delete ["delete"] (spP K (P1 fun x => okx 8 x = true) (R1 fun x => .bool (isDel x))) := by
  refine okP T.F__is_delete sc__is_delete 0 rfl P1.len fun cdv A outer s H E hr => ⟨_, (pss_one (ps_ret (pe_and (pe_call (ok__is_tuple_of T) (hr.mono (by decide)) (by rfl) T.g__is_tuple_of T.F__is_tuple_of.kp T.b__is_tuple_of .nil pass0 (pa_cons (pv 0) (pa_cons pe_int pa_nil))) (pe_one (pe_call (ok_is_key T) (hr.mono (by decide)) (by rfl) T.g_is_key T.F_is_key.kp T.b_is_key .nil pass0 (pa_cons (pe_ix (ixK_tup (K := K) rfl) (pv 0) pe_int (fun _ _ => rfl)) (pa_cons (pe_ix (ixK_tup (K := K) rfl) (pv 0) pe_int (fun _ _ => rfl)) pa_nil))))))), fun ds hd => ?_⟩
  obtain ⟨x, rfl, hx⟩ := hd
  walk_at "pn"
  cases x
  case tuple xs =>
    by_cases hl : xs.length = 2
    · match xs, hl with
      | [a, b], _ =>
        have ha := okx_tup hx (x := a) (by simp)
        have hb := okx_tup hx (x := b) (by simp)
        walk_at "pw"
        all_goals (refine r1d ?_; show _ = PyData.bool (isDel (.tuple [a, b])); simp_all [isDel, isTupN, intOf])
    · have e : isDel (.tuple xs) = false := by
        unfold isDel
        split
        · rename_i h; injection h with h; rw [h] at hl; simp at hl
        · rfl
      have e2 : isTupN (.tuple xs) (.int 2) = false := decide_eq_false (by show ¬ (xs.length : Int) = 2; omega)
      walk_at "px"
      rw [e2]
      walk_at "px"
      refine r1d ?_
      rw [e]
  all_goals walk_at "px"
  all_goals walk_at "pr"
theorem ok__are_distinct (T : TX K mg w) : FnOk P w K mg base CX0 1 T.a__are_distinct T.d__are_distinct ["keys"] (spP K (P1 fun x => ∃ ks, x = .list ks ∧ ks.length ≤ 1000 ∧ ∀ k ∈ ks, is2S k) (R1 fun x => .bool (match x with | .list ks => distD ks | _ => false))) := by
  refine T.F__are_distinct.ok sc__are_distinct (fun vs H Q E h => ?_) (fun cdv A outer s H vs Q E hr h => ?_)
  · obtain ⟨ds, B, hd, hB, ⟨x, rfl, _⟩, _⟩ := h
    exact dqa_len hd
  · obtain ⟨_, B, hd, hB, ⟨x, rfl, ks, rfl, hl, hk⟩, q⟩ := h
    obtain ⟨p, us, rfl, hp, hv⟩ : ∃ p us, vs = [.ref p] ∧ B p = some (.lst us) ∧ DqAll K B us ks := by
      cases hd with
      | cons h1 h2 => cases h2; obtain ⟨p, us, rfl, h3, h4⟩ := dq_lst h1; exact ⟨p, us, rfl, h3, h4⟩
    have lu := dqa_len hv
    refine ⟨_, (pss_cons (ps_set (i := 1) sc__are_distinct.nd rfl (Or.inl rfl) pe_dnewT)
      (pss_cons (ps_for PassesOwn.never rfl (pi_list (pv 0)) (pg_name (i := 2) sc__are_distinct.nd rfl (Or.inl rfl))
        (pss_cons (ps_if (pt_cmp (pc_din (hu_of hr) (pv 2) (pv 1))) (pss_one (ps_ret pe_bl)) pss_nil)
        (pss_one (ps_dput (hu_of hr) (pv 1) (pv 2) pe_bl rfl))))
      (pss_one (ps_ret pe_bl)))), ?_⟩
    intro o ho
    have s1 := same_upd (o := .dT []) ho
    have out : ∀ (b : Bool) G, b = distD ks → Same H G → Q (.bl b) G := fun b G e sG => q (.bl b) (.d (.bool b)) G B (fun x hx => by cases hx; rw [e]) sG (Same.refl _) (hB.trans sG) (fun _ _ h => h) (.bl b)
    refine ⟨_, rfl, p, rfl, ⟨us, sql (s1 _ _ (hB _ _ hp))⟩, for_list (K := K) (a := p) (xs := us) (fun i σ G => ∃ (kvs : List (List Key × V)) (x2 : Option V), σ = [some (.ref p), some (.ref o), x2] ∧ Same H G ∧ G o = some (.dT kvs) ∧ kvs.map Prod.fst = (ks.take i).map keyOf ∧ ((ks.take i).map keyOf).Nodup)
      ⟨[], none, rfl, s1, upd_same, rfl, .nil⟩ (fun i σ G _ ⟨_, _, _, sG, _⟩ => sql (sG _ _ (hB _ _ hp))) ?_ ?_⟩
    · rintro i v σ G hx ⟨kvs, x2, rfl, sG, ho2, hkv, hnd⟩
      obtain ⟨k, hki, hdk⟩ := dqa_atV hv hx
      obtain ⟨a, b, rfl⟩ := hk k (List.mem_of_getElem? hki)
      obtain ⟨t, ws, rfl, ht, hw⟩ := dq_tupH hdk
      have ew : ws = [.str a, .str b] := by
        cases hw with
        | cons h1 h2 =>
          cases h2 with
          | cons h3 h4 => cases h4; rw [dq_str h1, dq_str h3]
      subst ew
      have hi := (List.getElem?_eq_some_iff.mp hki).1
      have htk : ks.take (i + 1) = ks.take i ++ [.tuple [.str a, .str b]] := take_succ_app hki
      have hG : G t = some (.tup (([.inr a, .inr b] : List Key).map kV)) := sG _ _ (hB _ _ ht)
      refine ⟨_, rfl, _, rfl, o, _, rfl, DGet.t ho2 hG, ?_⟩
      have hns : ks = ks.take i ++ .tuple [.str a, .str b] :: ks.drop (i + 1) := by
        have hg := List.getElem?_eq_some_iff.mp hki
        rw [← hg.2, ← List.drop_eq_getElem_cons hg.1, List.take_append_drop]
      cases hc : (valV kvs [.inr a, .inr b]).isSome with
      | true =>
        have hm := valV_mem.mp hc
        rw [hkv] at hm
        refine ⟨true, rfl, ifbt rfl ?_⟩
        refine out false G ?_ sG
        unfold distD
        rw [decide_eq_false]
        intro h
        rw [hns, List.map_append, List.nodup_append] at h
        exact h.2.2 _ hm _ (List.mem_cons_self ..) rfl
      | false =>
        have hm : ([.inr a, .inr b] : List Key) ∉ kvs.map Prod.fst := fun h => by rw [valV_mem.mpr h] at hc; cases hc
        have hlen : kvs.length ≤ 1000 := by
          have := congrArg List.length hkv
          rw [List.length_map, List.length_map, List.length_take] at this
          omega
        refine ⟨false, rfl, ifbf rfl ?_⟩
        refine ⟨_, rfl, _, rfl, o, _, rfl, DPut.t ho2 hG (szl (by omega)), ?_⟩
        refine ⟨_, _, rfl, same_put sG ho, upd_same, ?_, ?_⟩
        · rw [putK_new hm, htk, List.map_append, List.map_append, hkv]; rfl
        · rw [htk, List.map_append, List.nodup_append]
          refine ⟨hnd, by simp, fun x hx y hy => ?_⟩
          rw [List.map_singleton, List.mem_singleton] at hy
          intro e
          rw [e, hy] at hx
          rw [hkv] at hm
          exact hm hx
    · rintro σ G ⟨kvs, x2, rfl, sG, ho2, hkv, hnd⟩
      rw [lu, List.take_length] at hnd
      exact out true G (decide_eq_true hnd).symm sG
end
def put2 : PyData → PyData
  | .tuple xs => .tuple (cutD xs none (some 2))
  | _ => .none
def isTup12 : PyData → Bool
  | .tuple xs => decide (xs.length ≤ 12)
  | _ => false
def isTrans : PyData → Bool
  | .tuple [.tuple c, .tuple p, .tuple d] => decide (c.length ≤ 12) && (decide (p.length ≤ 12) && (decide (d.length ≤ 12) && (c.all isCond && (p.all isPut && (d.all isDel && distD (p.map put2 ++ d))))))
  | _ => false
theorem isTrans_tup {x : PyData} (h : isTrans x = true) : ∃ c p d, x = .tuple [.tuple c, .tuple p, .tuple d] ∧ c.length ≤ 12 ∧ p.length ≤ 12 ∧ d.length ≤ 12 ∧ c.all isCond = true ∧ p.all isPut = true ∧ d.all isDel = true ∧ distD (p.map put2 ++ d) = true := by
  unfold isTrans at h
  split at h
  · rename_i c p d
    simp only [Bool.and_eq_true, decide_eq_true_iff] at h
    exact ⟨c, p, d, rfl, h.1, h.2.1, h.2.2.1, h.2.2.2.1, h.2.2.2.2.1, h.2.2.2.2.2.1, h.2.2.2.2.2.2⟩
  · cases h
theorem isTrans_of {c p d : List PyData} (h1 : c.length ≤ 12) (h2 : p.length ≤ 12) (h3 : d.length ≤ 12) (h4 : c.all isCond = true) (h5 : p.all isPut = true) (h6 : d.all isDel = true) (h7 : distD (p.map put2 ++ d) = true) : isTrans (.tuple [.tuple c, .tuple p, .tuple d]) = true := by
  show (decide (c.length ≤ 12) && (decide (p.length ≤ 12) && (decide (d.length ≤ 12) && (c.all isCond && (p.all isPut && (d.all isDel && distD (p.map put2 ++ d))))))) = true
  rw [decide_eq_true h1, decide_eq_true h2, decide_eq_true h3, h4, h5, h6, h7]; rfl
theorem ky_str {k n : PyData} (h : isKy k n = true) : ∃ a b, k = .str a ∧ n = .str b := by
  obtain ⟨z, _, rfl⟩ := isKy_kind h
  unfold isKy at h
  cases n with
  | str y => exact ⟨z, y, rfl, rfl⟩
  | _ => split at h <;> first | (cases h; done) | (rw [Bool.and_eq_true] at h; cases h.2)
theorem del_2S {x : PyData} (h : isDel x = true) : is2S x := by
  unfold isDel at h
  split at h
  · obtain ⟨a, b, rfl, rfl⟩ := ky_str h; exact ⟨a, b, rfl⟩
  · cases h
theorem put_2S {x : PyData} (h : isPut x = true) : is2S (put2 x) := by
  unfold isPut at h
  split at h
  · rename_i k n v
    have hk : isKy k n = true := ((Bool.and_eq_true _ _).mp h).1
    obtain ⟨a, b, rfl, rfl⟩ := ky_str hk; exact ⟨a, b, rfl⟩
  · cases h
def badT (C : Addr) : List PyData → Addr → Prop := fun ds D => ∃ x, ds = [x] ∧ isTrans x = false ∧ D = C
theorem badT_of {C : Addr} {x : PyData} (h : isTrans x = false) : badT C [x] C := ⟨x, rfl, h, rfl⟩
section
variable {P : Program} {w : World} {K : PySem.W.Frag} {mg : Str → Option Value} {base : Heap}
theorem ok_check_transaction (T : TX K mg w) : FnOk P w K mg base (L2.CX P w) 7 T.a_check_transaction T.d_check_transaction ["transaction"] (spX K (P1 fun x => okx 8 x = true) (fun ds r => ∀ x, ds = [x] → isTrans x = true ∧ r = .d .none) (badT T.a_BadTransaction)) := by
  refine okX T.F_check_transaction sc_check_transaction 7 rfl P1.len fun cdv A outer s H E hr => ⟨_, (pss_cons (ps_if (pt_not (ptK_truth (K := K) rfl (pe_call (ok__is_tuple_of T) (hr.mono (by decide)) (by rfl) T.g__is_tuple_of T.F__is_tuple_of.kp T.b__is_tuple_of .nil pass0 (pa_cons (pv 0) (pa_cons pe_int pa_nil))) (by intro _; rfl))) (pss_one (ps_leave rfl (takes_of rfl rfl rfl rfl) (pmk_own PySem.F.excBase_ValueError T.x_BadTransaction T.g_BadTransaction T.k_BadTransaction (raises_own T.s_BadTransaction T.t_BadTransaction) rfl))) pss_nil)
      (pss_cons (ps_for (passes_of rfl) rfl (piK_tup (K := K) rfl (pv 0)) (pg_name (i := 1) sc_check_transaction.nd rfl (Or.inl rfl))
        (pss_one (ps_if (PW.pt (pw_or (pt_not (pt_val (pe_callB (callK_isi (K := K) rfl) (by rfl) T.n_isinstance (by decide +kernel) (pa_cons (pv 1) (pa_cons (pe_bltn (v := .ty "tuple") (u := .type "tuple") (by rfl) T.n_tuple (by decide +kernel) rfl) pa_nil))))) (pw_or1 (pt_cmpR op_gt (pe_callB (callK_len (K := K) rfl) (by rfl) T.n_len PySem.boot_len (pa_cons (pv 1) pa_nil)) (pe_glob (v := .int 12) (by rfl) T.c_MOST_MEMBERS ⟨_, rfl⟩) (nomark _))))) (pss_one (ps_leave rfl (takes_of rfl rfl rfl rfl) (pmk_own PySem.F.excBase_ValueError T.x_BadTransaction T.g_BadTransaction T.k_BadTransaction (raises_own T.s_BadTransaction T.t_BadTransaction) rfl))) pss_nil)))
      (pss_cons (ps_asg (pv 0) (pgK_tup (K := K) (n := 3) rfl rfl (pgs_cons (pg_name (i := 2) sc_check_transaction.nd rfl (Or.inl rfl)) (pgs_cons (pg_name (i := 3) sc_check_transaction.nd rfl (Or.inl rfl)) (pgs_cons (pg_name (i := 4) sc_check_transaction.nd rfl (Or.inl rfl)) pgs_nil)))))
      (pss_cons (ps_if (pt_not (pt_val (pe_callB (callK_all (K := K) rfl rfl) (by rfl) T.n_all (by decide +kernel) (pa_cons (pe_lc (own := [("condition", 5)]) (g := gName 5) (tt := tYes) (by rfl) sc_check_transaction.nd (piK_tup (K := K) rfl (pv 2)) (blkOk_by (own := [("condition", 5)]) (N := ["transaction", "part", "conditions", "puts", "deletes", "condition", "put", "delete"]) (sc := defScope s_check_transaction) (by decide +kernel)) (fun _ _ _ _ _ => pg_name (i := 5) sc_check_transaction.nd rfl (Or.inl rfl)) (fun _ _ _ _ _ => pts_nil) (fun _ _ _ _ _ => (pe_call (ok__is_condition T) (hr.mono (by decide)) (by rfl) T.g__is_condition T.F__is_condition.kp T.b__is_condition .nil pass0 (pa_cons (pv 5) pa_nil)))) pa_nil)))) (pss_one (ps_leave rfl (takes_of rfl rfl rfl rfl) (pmk_own PySem.F.excBase_ValueError T.x_BadTransaction T.g_BadTransaction T.k_BadTransaction (raises_own T.s_BadTransaction T.t_BadTransaction) rfl))) pss_nil)
      (pss_cons (ps_if (pt_not (pt_val (pe_callB (callK_all (K := K) rfl rfl) (by rfl) T.n_all (by decide +kernel) (pa_cons (pe_lc (own := [("put", 6)]) (g := gName 6) (tt := tYes) (by rfl) sc_check_transaction.nd (piK_tup (K := K) rfl (pv 3)) (blkOk_by (own := [("put", 6)]) (N := ["transaction", "part", "conditions", "puts", "deletes", "condition", "put", "delete"]) (sc := defScope s_check_transaction) (by decide +kernel)) (fun _ _ _ _ _ => pg_name (i := 6) sc_check_transaction.nd rfl (Or.inl rfl)) (fun _ _ _ _ _ => pts_nil) (fun _ _ _ _ _ => (pe_call (ok__is_put T) (hr.mono (by decide)) (by rfl) T.g__is_put T.F__is_put.kp T.b__is_put .nil pass0 (pa_cons (pv 6) pa_nil)))) pa_nil)))) (pss_one (ps_leave rfl (takes_of rfl rfl rfl rfl) (pmk_own PySem.F.excBase_ValueError T.x_BadTransaction T.g_BadTransaction T.k_BadTransaction (raises_own T.s_BadTransaction T.t_BadTransaction) rfl))) pss_nil)
      (pss_cons (ps_if (pt_not (pt_val (pe_callB (callK_all (K := K) rfl rfl) (by rfl) T.n_all (by decide +kernel) (pa_cons (pe_lc (own := [("delete", 7)]) (g := gName 7) (tt := tYes) (by rfl) sc_check_transaction.nd (piK_tup (K := K) rfl (pv 4)) (blkOk_by (own := [("delete", 7)]) (N := ["transaction", "part", "conditions", "puts", "deletes", "condition", "put", "delete"]) (sc := defScope s_check_transaction) (by decide +kernel)) (fun _ _ _ _ _ => pg_name (i := 7) sc_check_transaction.nd rfl (Or.inl rfl)) (fun _ _ _ _ _ => pts_nil) (fun _ _ _ _ _ => (pe_call (ok__is_delete T) (hr.mono (by decide)) (by rfl) T.g__is_delete T.F__is_delete.kp T.b__is_delete .nil pass0 (pa_cons (pv 7) pa_nil)))) pa_nil)))) (pss_one (ps_leave rfl (takes_of rfl rfl rfl rfl) (pmk_own PySem.F.excBase_ValueError T.x_BadTransaction T.g_BadTransaction T.k_BadTransaction (raises_own T.s_BadTransaction T.t_BadTransaction) rfl))) pss_nil)
      (pss_one (ps_if (pt_not (ptK_truth (K := K) rfl (pe_call (ok__are_distinct T) (hr.mono (by decide)) (by rfl) T.g__are_distinct T.F__are_distinct.kp T.b__are_distinct .nil pass0 (pa_cons (pe_op op_cat (pe_lc (own := [("put", 6)]) (g := gName 6) (tt := tYes) (by rfl) sc_check_transaction.nd (piK_tup (K := K) rfl (pv 3)) (blkOk_by (own := [("put", 6)]) (N := ["transaction", "part", "conditions", "puts", "deletes", "condition", "put", "delete"]) (sc := defScope s_check_transaction) (by decide +kernel)) (fun _ _ _ _ _ => pg_name (i := 6) sc_check_transaction.nd rfl (Or.inl rfl)) (fun _ _ _ _ _ => pts_nil) (fun _ _ _ _ _ => (pe_slice (slK_tupA (K := K) rfl) (pv 6) po_none (po_some pe_int)))) (pe_callTy (callK_list (K := K) rfl) (by rfl) T.n_list (by decide +kernel) (pa_cons (pv 4) pa_nil))) pa_nil)) (by intro _; rfl))) (pss_one (ps_leave rfl (takes_of rfl rfl rfl rfl) (pmk_own PySem.F.excBase_ValueError T.x_BadTransaction T.g_BadTransaction T.k_BadTransaction (raises_own T.s_BadTransaction T.t_BadTransaction) rfl))) pss_nil)))))))), fun ds hd => ?_⟩
  obtain ⟨x, rfl, hx⟩ := hd
  walk_at "pn"
  by_cases h3 : ∃ a b c, x = .tuple [a, b, c]
  case neg =>
    have e : isTrans x = false := by
      rw [Bool.eq_false_iff]
      intro h
      obtain ⟨c, p, d, rfl, _⟩ := isTrans_tup h
      exact h3 ⟨_, _, _, rfl⟩
    have e2 : isTupN x (.int 3) = false := by
      cases x
      case tuple xs =>
        refine decide_eq_false fun h => h3 ?_
        have hl : xs.length = 3 := by have : (xs.length : Int) = 3 := h; omega
        match xs, hl with
        | [a, b, c], _ => exact ⟨a, b, c, rfl⟩
      all_goals rfl
    walk_at "px"
    rw [e2]
    walk_at "px"
    exact badT_of e
  obtain ⟨a, b, c, rfl⟩ := h3
  walk_at "px"
  refine ws_for ?_
  walk_at "px"
  refine ⟨Unit, fun _ => [.d (.tuple [a, b, c]), .u, .u, .u, .u, .u, .u, .u], fun _ => (), fun i _ => ∀ y ∈ [a, b, c].take i, isTup12 y = true, nxt () (by walk_at "wk") rfl (by simp), fun i y _ hy hI => ?_, fun _ hI => ?_⟩
  · dsimp only at hI
    have hm := List.mem_of_getElem? hy
    have htk := take_succ_app hy
    have bad : isTup12 y = false → badT T.a_BadTransaction [.tuple [a, b, c]] T.a_BadTransaction := fun h => badT_of (by
      rw [Bool.eq_false_iff]
      intro h2
      obtain ⟨c', p, d, e, h1, h2, h3, _⟩ := isTrans_tup h2
      injection e with e
      have : isTup12 y = true := by
        rw [e] at hm
        simp only [List.mem_cons, List.not_mem_nil, or_false] at hm
        rcases hm with rfl | rfl | rfl <;> exact decide_eq_true (by assumption)
      rw [this] at h
      cases h)
    clear hy
    cases y
    case tuple ys =>
      walk_at "px"
      walk_at "pi"
      · intro h
        walk_at "px"
        exact bad (decide_eq_false (by omega))
      · intro h
        walk_at "px"
        refine nxt () (by walk_at "wk") rfl fun z hz => ?_
        rw [htk] at hz
        rcases List.mem_append.mp hz with hz | hz
        · exact hI z hz
        · rw [List.mem_singleton.mp hz]
          exact decide_eq_true (by omega)
    all_goals walk_at "px"
    all_goals exact bad rfl
  · obtain ⟨ca, rfl, la⟩ : ∃ xs, a = .tuple xs ∧ xs.length ≤ 12 := by
      have h := hI a (by simp)
      cases a with
      | tuple xs => exact ⟨xs, rfl, of_decide_eq_true h⟩
      | _ => cases h
    obtain ⟨cb, rfl, lb⟩ : ∃ xs, b = .tuple xs ∧ xs.length ≤ 12 := by
      have h := hI b (by simp)
      cases b with
      | tuple xs => exact ⟨xs, rfl, of_decide_eq_true h⟩
      | _ => cases h
    obtain ⟨cc, rfl, lc⟩ : ∃ xs, c = .tuple xs ∧ xs.length ≤ 12 := by
      have h := hI c (by simp)
      cases c with
      | tuple xs => exact ⟨xs, rfl, of_decide_eq_true h⟩
      | _ => cases h
    clear hI
    have ho : ∀ y ∈ ca ++ cb ++ cc, okx 8 y = true := fun y hy => by
      rw [List.mem_append, List.mem_append] at hy
      rcases hy with (hy | hy) | hy
      · exact okx_tup (okx_tup hx (x := .tuple ca) (by simp)) hy
      · exact okx_tup (okx_tup hx (x := .tuple cb) (by simp)) hy
      · exact okx_tup (okx_tup hx (x := .tuple cc) (by simp)) hy
    have ht : isTrans (.tuple [.tuple ca, .tuple cb, .tuple cc]) = (ca.all isCond && (cb.all isPut && (cc.all isDel && distD (cb.map put2 ++ cc)))) := by
      show (decide _ && (decide _ && (decide _ && _))) = _
      rw [decide_eq_true la, decide_eq_true lb, decide_eq_true lc]; rfl
    walk_at "px"
    refine we_lcM (by walk_at "ww") rfl ?_
    walk_at "px"
    refine ⟨fun x => .bool (isCond x), by omega, fun x hx => ?_, ?_⟩
    · have hx8 := ho x (by simp [hx])
      walk_at "pn"
      walk_at "px"
      exact rfl
    walk_at "px"
    refine cbP_all (bs := ca.map isCond) (by rw [List.map_map]; rfl) ?_
    walk_at "px"
    rw [all_map_id]
    walk_at "pi"
    · intro h
      walk_at "px"
      exact badT_of (by rw [ht, h, Bool.false_and])
    intro g1
    walk_at "px"
    refine we_lcM (by walk_at "ww") rfl ?_
    walk_at "px"
    refine ⟨fun x => .bool (isPut x), by omega, fun x hx => ?_, ?_⟩
    · have hx8 := ho x (by simp [hx])
      walk_at "pn"
      walk_at "px"
      exact rfl
    walk_at "px"
    refine cbP_all (bs := cb.map isPut) (by rw [List.map_map]; rfl) ?_
    walk_at "px"
    rw [all_map_id]
    walk_at "pi"
    · intro h
      walk_at "px"
      exact badT_of (by rw [ht, h, Bool.false_and, Bool.and_false])
    intro g2
    walk_at "px"
    refine we_lcM (by walk_at "ww") rfl ?_
    walk_at "px"
    refine ⟨fun x => .bool (isDel x), by omega, fun x hx => ?_, ?_⟩
    · have hx8 := ho x (by simp [hx])
      walk_at "pn"
      walk_at "px"
      exact rfl
    walk_at "px"
    refine cbP_all (bs := cc.map isDel) (by rw [List.map_map]; rfl) ?_
    walk_at "px"
    rw [all_map_id]
    walk_at "pi"
    · intro h
      walk_at "px"
      exact badT_of (by rw [ht, h, Bool.false_and, Bool.and_false, Bool.and_false])
    intro g3
    rw [g1, g2, g3] at ht
    walk_at "px"
    refine we_lcM (by walk_at "ww") rfl ?_
    walk_at "px"
    refine ⟨put2, by omega, fun x hx => ?_, ?_⟩
    · have hp := List.all_eq_true.mp g2 x hx
      cases x
      case tuple xs =>
        walk_at "pn"
        walk_at "px"
        exact rfl
      all_goals cases hp
    walk_at "px"
    refine opP_cat rfl rfl (by rw [List.length_map]; omega) ?_
    walk_at "px"
    refine ⟨⟨_, rfl, by rw [List.length_append, List.length_map]; omega, fun k hk => ?_⟩, ?_⟩
    · rcases List.mem_append.mp hk with hk | hk
      · obtain ⟨z, hz, rfl⟩ := List.mem_map.mp hk
        exact put_2S (List.all_eq_true.mp g2 z hz)
      · exact del_2S (List.all_eq_true.mp g3 k hk)
    walk_at "px"
    show ((!distD (cb.map put2 ++ cc)) = true → _) ∧ (_ → _)
    walk_at "pi"
    · intro h
      walk_at "px"
      exact badT_of (by rw [ht, show distD (cb.map put2 ++ cc) = false from decide_eq_false h]; rfl)
    · intro h
      walk_at "px"
      intro x e
      cases e
      exact ⟨by rw [ht, show distD (cb.map put2 ++ cc) = true from decide_eq_true h]; rfl, rfl⟩
end
theorem intIn_int {x : PyData} {lo hi : Int} (h : intIn x lo hi = true) : ∃ j, x = .int j ∧ lo ≤ j ∧ j ≤ hi := by
  cases x with
  | int j =>
    have : (decide (lo ≤ j) && decide (j ≤ hi)) = true := h
    rw [Bool.and_eq_true] at this
    exact ⟨j, rfl, of_decide_eq_true this.1, of_decide_eq_true this.2⟩
  | _ => cases h
/-! what has a form is small -/
theorem atI_getD {xs : List PyData} {i : Int} (h0 : 0 ≤ i) (h1 : i.toNat < xs.length) : atI xs i = some (xs.getD i.toNat .none) := by
  rw [atI_of h0 h1, List.getD_eq_getElem?_getD, List.getElem?_eq_getElem h1, Option.getD_some]
theorem low_ok {z : Str} (h : ∀ c ∈ z.cps.toList, c ≤ 126) : PyData.strOk z = true := by
  unfold PyData.strOk
  rw [← Array.all_toList, List.all_eq_true]
  intro c hc
  have h1 := h c hc
  refine decide_eq_true ?_
  omega
theorem low_okx {z : Str} {n : Nat} (h : ∀ c ∈ z.cps.toList, c ≤ 126) (hl : z.length ≤ 100000) : okx n (.str z) = true := by
  unfold okx
  rw [low_ok h, decide_eq_true hl]; rfl
theorem nm_low {z : Str} (h : isNm (.str z) = true) : (∀ c ∈ z.cps.toList, c ≤ 126) ∧ 1 ≤ z.length ∧ z.length ≤ 12 := by
  have h' : (decide (1 ≤ z.length) && decide (z.length ≤ 12) && z.cps.toList.all fun c => decide (c ∈ nameChs.cps.toList)) = true := h
  rw [Bool.and_eq_true, Bool.and_eq_true, List.all_eq_true] at h'
  refine ⟨fun c hc => ?_, of_decide_eq_true h'.1.1, of_decide_eq_true h'.1.2⟩
  have h1 := of_decide_eq_true (h'.2 c hc)
  have : ∀ c ∈ nameChs.cps.toList, c ≤ 126 := by decide +kernel
  exact this c h1
theorem nm_okx {y : PyData} {n : Nat} (h : isNm y = true) : okx n y = true := by
  cases y with
  | str z => exact low_okx (nm_low h).1 (by have := (nm_low h).2.2; omega)
  | _ => cases h
theorem tx_okx {y : PyData} {n : Nat} (h : isTx y = true) : okx n y = true := by
  cases y with
  | str z =>
    have h' : (decide (z.length ≤ 40) && z.cps.toList.all plainCh) = true := h
    rw [Bool.and_eq_true, List.all_eq_true] at h'
    refine low_okx (fun c hc => ?_) (by have := of_decide_eq_true h'.1; omega)
    have h1 := h'.2 c hc
    unfold plainCh at h1
    rw [Bool.and_eq_true, Bool.and_eq_true] at h1
    exact of_decide_eq_true h1.1.2
  | _ => cases h
theorem zo_okx {y : PyData} {n : Nat} (h : isZo y = true) : okx n y = true := by
  unfold isZo at h
  rw [Bool.or_eq_true] at h
  rcases h with h | h
  · rw [eqv_strR h]; exact low_okx (by decide +kernel) (by decide +kernel)
  · exact nm_okx h
theorem in_okx {y : PyData} {lo hi : Int} {n : Nat} (h : intIn y lo hi = true) : okx n y = true := by
  obtain ⟨j, rfl, _⟩ := intIn_int h
  cases n <;> rfl
theorem sl_okx {y : PyData} {n : Nat} (h : isSl y = true) : okx n y = true := by
  cases y with
  | str z =>
    have h' : (decide (3 ≤ z.length) && (decide (z.cps.toList.getD (z.length - 1) 0 ∈ digChs.cps.toList) && (decide (z.cps.toList.getD (z.length - 2) 0 = 47) && isNm (.str (cutS z none (some (-2))))))) = true := h
    rw [Bool.and_eq_true, Bool.and_eq_true, Bool.and_eq_true] at h'
    obtain ⟨g1, g2, g3, g4⟩ := h'
    replace g1 := of_decide_eq_true g1
    replace g2 := of_decide_eq_true g2
    replace g3 := of_decide_eq_true g3
    have hz := z_len z
    have ec : (cutS z none (some (-2))).cps.toList = z.cps.toList.take (z.length - 2) := by
      unfold cutS
      show (List.take ((-2 + (z.length : Int)).toNat - 0) (z.cps.toList.drop 0)).toArray.toList = _
      rw [List.drop_zero, show (-2 + (z.length : Int)).toNat - 0 = z.length - 2 by omega]
    have e3 : (cutS z none (some (-2))).length = z.length - 2 := by rw [← z_len, ec, List.length_take, hz]; omega
    obtain ⟨l1, _, l3⟩ := nm_low g4
    rw [e3] at l3
    rw [ec] at l1
    refine low_okx (fun c hc => ?_) (by omega)
    obtain ⟨i, hi, rfl⟩ := List.mem_iff_getElem.mp hc
    by_cases h1 : i < z.length - 2
    · refine l1 _ ?_
      rw [List.mem_take_iff_getElem]
      exact ⟨i, by omega, rfl⟩
    · by_cases h2 : i = z.length - 2
      · subst h2
        rw [List.getD_eq_getElem?_getD, List.getElem?_eq_getElem hi, Option.getD_some] at g3
        rw [g3]; decide
      · have h3 : i = z.length - 1 := by omega
        subst h3
        rw [List.getD_eq_getElem?_getD, List.getElem?_eq_getElem hi, Option.getD_some] at g2
        have : ∀ c ∈ digChs.cps.toList, c ≤ 126 := by decide +kernel
        exact this _ g2
  | _ => cases h
theorem ky_okx {k y : PyData} {n m : Nat} (h : isKy k y = true) : okx n k = true ∧ okx m y = true := by
  obtain ⟨z, hz, rfl⟩ := isKy_kind h
  refine ⟨?_, ?_⟩
  · simp only [kindNames, List.mem_cons, List.not_mem_nil, or_false] at hz
    rcases hz with rfl | rfl | rfl | rfl | rfl | rfl | rfl <;> exact low_okx (by decide +kernel) (by decide +kernel)
  · unfold isKy at h
    split at h
    · exact sl_okx h
    · rw [Bool.and_eq_true] at h; exact nm_okx h.2
theorem open_okx : ∀ {xs : List PyData} {l : Int}, openFrom l xs = true → (∀ x ∈ xs, ∀ n, okx n x = true) ∧ l + xs.length ≤ 10 ∨ xs = []
  | [], l, _ => .inr rfl
  | x :: xs, l, h => by
    unfold openFrom at h
    rw [Bool.and_eq_true] at h
    obtain ⟨j, rfl, h1, h2⟩ := intIn_int h.1
    rcases open_okx h.2 with ⟨h3, h4⟩ | rfl
    · refine .inl ⟨fun x hx n => ?_, ?_⟩
      · rcases List.mem_cons.mp hx with rfl | hx
        · exact in_okx h.1
        · exact h3 x hx n
      · change j + 1 + (xs.length : Int) ≤ 10 at h4
        rw [List.length_cons]
        omega
    · refine .inl ⟨fun x hx n => ?_, ?_⟩
      · rw [List.mem_singleton] at hx; rw [hx]; exact in_okx h.1
      · show l + ((0 + 1 : Nat) : Int) ≤ 10; omega
theorem op_okx {y : PyData} {n : Nat} (h : isOpN y = true) : okx (n + 1) y = true := by
  cases y with
  | tuple xs =>
    rcases open_okx (show openFrom 0 xs = true from h) with ⟨h1, h2⟩ | rfl
    · exact okx_tup_of (by omega) fun x hx => h1 x hx n
    · rfl
  | _ => cases h
theorem st_okx {y : PyData} {n : Nat} (h : (statesD.any fun z => z.eqv y) = true) : okx n y = true := by
  rw [List.any_eq_true] at h
  obtain ⟨z, hz, he⟩ := h
  simp only [statesD, List.mem_cons, List.not_mem_nil, or_false] at hz
  rcases hz with rfl | rfl | rfl | rfl <;> (rw [eqv_strL he]; exact low_okx (by decide +kernel) (by decide +kernel))
theorem form_okx {z : Str} {y : PyData} (h : formOf z y = true) : okx 3 y = true := by
  have tup : ∀ {xs : List PyData}, xs.length ≤ 8 → (∀ x ∈ xs, okx 2 x = true) → okx 3 (.tuple xs) = true := fun hl h => okx_tup_of (by omega) h
  unfold formOf at h
  repeat' split at h
  · unfold fBeat at h
    split at h
    · simp only [Bool.and_eq_true, isCt] at h
      exact tup (by simp) (by simp [in_okx h.1, in_okx h.2])
    · cases h
  · unfold fDrain at h
    split at h
    · exact tup (by simp) (by simp [tx_okx h])
    · cases h
  · unfold fNode at h
    split at h
    · simp only [Bool.and_eq_true, isCt] at h
      exact tup (by simp) (by simp [in_okx h.1, in_okx h.2.1, in_okx h.2.2.1, in_okx h.2.2.2.1, zo_okx h.2.2.2.2])
    · cases h
  · unfold fNote at h
    split at h
    · simp only [Bool.and_eq_true, isCt, Bool.or_eq_true] at h
      rcases h.2.2 with h2 | h2
      · have e2 := eqv_strR h2.2
        subst e2
        have e1 := eqv_strR h2.1
        subst e1
        exact tup (by simp) (by simp [tx_okx h.1, in_okx h.2.1, (low_okx (by decide +kernel) (by decide +kernel) : okx 2 (.str "") = true)])
      · exact tup (by simp) (by simp [tx_okx h.1, in_okx h.2.1, (ky_okx (n := 2) (m := 2) h2).1, (ky_okx (n := 2) (m := 2) h2).2])
    · cases h
  · unfold fRollout at h
    split at h
    · simp only [Bool.and_eq_true, isCt] at h
      exact tup (by simp) (by simp [in_okx h.1, op_okx (n := 1) h.2])
    · cases h
  · unfold fService at h
    split at h
    · simp only [Bool.and_eq_true, isCt] at h
      exact tup (by simp) (by simp [in_okx h.1, in_okx h.2.1, tx_okx h.2.2.1, in_okx h.2.2.2.1, zo_okx h.2.2.2.2])
    · cases h
  · unfold fTask at h
    split at h
    · simp only [Bool.and_eq_true, isCt] at h
      exact tup (by simp) (by simp [in_okx h.1, in_okx h.2.1, in_okx h.2.2.1, tx_okx h.2.2.2.1, zo_okx h.2.2.2.2.1, zo_okx h.2.2.2.2.2.1, st_okx h.2.2.2.2.2.2.1, in_okx h.2.2.2.2.2.2.2])
    · cases h
theorem cutD_mem {xs : List PyData} {lo hi : Option Int} {x : PyData} (h : x ∈ cutD xs lo hi) : x ∈ xs := List.mem_of_mem_drop (List.mem_of_mem_take h)
theorem cutD_le {xs : List PyData} {lo hi : Option Int} : (cutD xs lo hi).length ≤ xs.length := by
  unfold cutD
  rw [List.length_take, List.length_drop]
  omega
theorem cutD_to {xs : List PyData} (j : Nat) : cutD xs none (some (j : Int)) = xs.take j := by
  unfold cutD
  rw [sIx_le]
  show ((xs.drop 0).take (min j xs.length - 0)) = _
  rw [List.drop_zero, Nat.sub_zero]
  by_cases h : j ≤ xs.length
  · rw [Nat.min_eq_left h]
  · rw [Nat.min_eq_right (by omega), List.take_length, List.take_of_length_le (by omega)]
theorem part_eq {ds : List Int} {i n : Nat} : cutD (ds.map PyData.int) (some ((n : Int) * (0 + (i : Int)))) (some ((n : Int) * (0 + (i : Int)) + (n : Int))) = ((ds.drop (n * i)).take n).map .int := by
  rw [show (n : Int) * (0 + (i : Int)) = ((n * i : Nat) : Int) by rw [Int.zero_add]; rfl, show ((n * i : Nat) : Int) + (n : Int) = ((n * i + n : Nat) : Int) by omega, cutD_mid, List.map_take, List.map_drop, Nat.add_sub_cancel_left]
theorem cond_okx {x : PyData} (h : isCond x = true) : okx 5 x = true := by
  unfold isCond at h
  split at h
  · rename_i k n r
    rw [Bool.and_eq_true] at h
    exact okx_tup_of (by simp) (by simp [(ky_okx (n := 4) (m := 4) h.1).1, (ky_okx (n := 4) (m := 4) h.1).2, in_okx (n := 4) h.2])
  · cases h
theorem obj_parts {k n v : PyData} (h : isObj k n v = true) : isKy k n = true ∧ okx 3 v = true := by
  unfold isObj at h
  rw [Bool.and_eq_true] at h
  obtain ⟨z, _, rfl⟩ := isKy_kind h.1
  refine ⟨h.1, ?_⟩
  have h2 := h.2
  rw [Bool.and_eq_true] at h2
  exact form_okx h2.2
theorem put_okx {x : PyData} (h : isPut x = true) : okx 5 x = true := by
  unfold isPut at h
  split at h
  · rename_i k n v
    obtain ⟨h1, h2⟩ := obj_parts h
    exact okx_tup_of (by simp) (by simp [(ky_okx (n := 4) (m := 4) h1).1, (ky_okx (n := 4) (m := 4) h1).2, okx_mono (m := 4) (by decide) h2])
  · cases h
theorem del_okx {x : PyData} (h : isDel x = true) : okx 5 x = true := by
  unfold isDel at h
  split at h
  · rename_i k n
    exact okx_tup_of (by simp) (by simp [(ky_okx (n := 4) (m := 4) h).1, (ky_okx (n := 4) (m := 4) h).2])
  · cases h
def no13 (k : PyData) : Prop := ∀ a n, k = .tuple [.str a, .str n] → n.length ≠ 13
structure GoodT (c p d : List PyData) : Prop where
  lc : c.length ≤ 3
  lp : p.length ≤ 3
  ld : d.length ≤ 3
  ac : c.all isCond = true
  ap : p.all isPut = true
  ad : d.all isDel = true
  k : ((p.map put2 ++ d).map keyOf).Nodup
  n : ∀ k ∈ p.map put2 ++ d, no13 k
/-- while puts and deletes are gathered -/
structure GatherT (i : Nat) (p d ks : List PyData) : Prop where
  lp : p.length ≤ i
  ld : d.length ≤ i
  lk : ks.length ≤ i
  ap : p.all isPut = true
  ad : d.all isDel = true
  k : ((p.map put2 ++ d).map keyOf).Nodup
  n : ∀ k ∈ p.map put2 ++ d, no13 k
  m : ∀ k ∈ p.map put2 ++ d, k ∈ ks
  s : ∀ k ∈ ks, is2S k
  o : ∀ k ∈ ks, okx 3 k = true
theorem keyOf_inj {x y : PyData} (hx : is2S x) (hy : is2S y) (h : keyOf x = keyOf y) : x = y := by
  obtain ⟨a, b, rfl⟩ := hx
  obtain ⟨c, d, rfl⟩ := hy
  have h' : ([.inr a, .inr b] : List Key) = [.inr c, .inr d] := h
  injection h' with h1 h2
  injection h2 with h3 h4
  cases h1
  cases h3
  rfl
theorem GatherT.new {i : Nat} {p d ks : List PyData} {x : PyData} (g : GatherT i p d ks) (hx : is2S x) (hn : x ∉ ks) : keyOf x ∉ (p.map put2 ++ d).map keyOf := fun h => by
  obtain ⟨y, hy, e⟩ := List.mem_map.mp h
  have := keyOf_inj (g.s y (g.m y hy)) hx e
  subst this
  exact hn (g.m _ hy)
theorem GatherT.del {i : Nat} {p d ks : List PyData} {x : PyData} (g : GatherT i p d ks) (hx : is2S x) (hxo : okx 3 x = true) (h13 : no13 x) (hn : x ∉ ks) (hd : isDel x = true) : GatherT (i + 1) p (d ++ [x]) (ks ++ [x]) where
  lp := Nat.le_succ_of_le g.lp
  ld := by rw [List.length_append]; exact Nat.succ_le_succ g.ld
  lk := by rw [List.length_append]; exact Nat.succ_le_succ g.lk
  ap := g.ap
  ad := by rw [List.all_append, g.ad]; simp [hd]
  k := by
    rw [← List.append_assoc, List.map_append, List.nodup_append]
    refine ⟨g.k, by simp, fun a ha b hb => ?_⟩
    rw [List.map_singleton, List.mem_singleton] at hb
    rw [hb]
    exact fun e => g.new hx hn (e ▸ ha)
  n := fun k hk => by
    rw [← List.append_assoc] at hk
    rcases List.mem_append.mp hk with h | h
    · exact g.n k h
    · rw [List.mem_singleton.mp h]; exact h13
  m := fun k hk => by
    rw [← List.append_assoc] at hk
    rcases List.mem_append.mp hk with h | h
    · exact List.mem_append_left _ (g.m k h)
    · exact List.mem_append_right _ h
  s := fun k hk => by
    rcases List.mem_append.mp hk with h | h
    · exact g.s k h
    · rw [List.mem_singleton.mp h]; exact hx
  o := fun k hk => by
    rcases List.mem_append.mp hk with h | h
    · exact g.o k h
    · rw [List.mem_singleton.mp h]; exact hxo
theorem GatherT.put {i : Nat} {p d ks : List PyData} {x y : PyData} (g : GatherT i p d ks) (hx : is2S x) (hxo : okx 3 x = true) (h13 : no13 x) (hn : x ∉ ks) (hp : isPut y = true) (e : put2 y = x) : GatherT (i + 1) (p ++ [y]) d (ks ++ [x]) := by
  have hperm : (List.map put2 (p ++ [y]) ++ d).Perm ((p.map put2 ++ d) ++ [x]) := by
    rw [List.map_append, List.map_singleton, e, List.append_assoc, List.append_assoc]
    exact List.Perm.append_left _ List.perm_append_comm
  refine ⟨?_, Nat.le_succ_of_le g.ld, ?_, ?_, g.ad, ?_, fun k hk => ?_, fun k hk => ?_, fun k hk => ?_, fun k hk => ?_⟩
  · rw [List.length_append]; exact Nat.succ_le_succ g.lp
  · rw [List.length_append]; exact Nat.succ_le_succ g.lk
  · rw [List.all_append, g.ap]; simp [hp]
  · rw [(hperm.map keyOf).nodup_iff, List.map_append, List.nodup_append]
    refine ⟨g.k, by simp, fun a ha b hb => ?_⟩
    rw [List.map_singleton, List.mem_singleton] at hb
    rw [hb]
    exact fun e => g.new hx hn (e ▸ ha)
  · rcases List.mem_append.mp (hperm.mem_iff.mp hk) with h | h
    · exact g.n k h
    · rw [List.mem_singleton.mp h]; exact h13
  · rcases List.mem_append.mp (hperm.mem_iff.mp hk) with h | h
    · exact List.mem_append_left _ (g.m k h)
    · exact List.mem_append_right _ h
  · rcases List.mem_append.mp hk with h | h
    · exact g.s k h
    · rw [List.mem_singleton.mp h]; exact hx
  · rcases List.mem_append.mp hk with h | h
    · exact g.o k h
    · rw [List.mem_singleton.mp h]; exact hxo
theorem GatherT.keep {i : Nat} {p d ks : List PyData} (g : GatherT i p d ks) : GatherT (i + 1) p d ks := ⟨Nat.le_succ_of_le g.lp, Nat.le_succ_of_le g.ld, Nat.le_succ_of_le g.lk, g.ap, g.ad, g.k, g.n, g.m, g.s, g.o⟩
theorem eqv_self2 {a b : Str} : (PyData.tuple [.str a, .str b]).eqv (.tuple [.str a, .str b]) = true := by
  simp only [PyData.eqv, PyData.eqvAll, beq_self_eq_true, Bool.and_true]
theorem cut_at {ds : List Int} {lo hi : Int} {a n : Nat} (h1 : lo = (a : Int)) (h2 : hi = ((a + n : Nat) : Int)) : cutD (ds.map PyData.int) (some lo) (some hi) = ((ds.drop a).take n).map .int := by
  rw [h1, h2, cutD_mid, List.map_take, List.map_drop, Nat.add_sub_cancel_left]
section
variable {P : Program} {w : World} {K : PySem.W.Frag} {mg : Str → Option Value} {base : Heap}
theorem ok__law_find (T : TX K mg w) : FnOk P w K mg base CX0 1 T.a__law_find T.d__law_find ["entries", "kind", "name"] (spP K (P3 fun e k n => e = .list []) (R3 fun _ _ _ => .none)) := by
  refine okP T.F__law_find sc__law_find 1 rfl P3.len fun cdv A outer s H E hr => ⟨_, (pss_cons (ps_for PassesOwn.never rfl (piK_list (K := K) rfl (pv 0)) (pg_name (i := 3) sc__law_find.nd rfl (Or.inl rfl))
        (pss_one (ps_if (PW.pt (pw_and (pt_cmpR (opK_eqD (K := K) rfl hr.units) (pe_ix (ixK_list (K := K) rfl) (pv 3) pe_int (fun _ _ => rfl)) (pv 1) (nomark _)) (pw_and1 (pt_cmpR op_eq (pe_ix (ixK_list (K := K) rfl) (pv 3) pe_int (fun _ _ => rfl)) (pv 2) (nomark _))))) (pss_one (ps_ret (pv 3))) pss_nil)))
      (pss_one (ps_ret pe_non))), fun ds hd => ?_⟩
  obtain ⟨e, k, n, rfl, rfl⟩ := hd
  walk_at "pn"
  walk_at "px"
  refine ws_for ?_
  walk_at "px"
  refine ⟨Unit, fun _ => [.d (.list []), .d k, .d n, .u], fun _ => (), fun _ _ => True, nxt () (by walk_at "wk") rfl True.intro, fun i x _ hx _ => ?_, fun _ _ => ?_⟩
  · cases hx
  · walk_at "px"
    walk_at "pr"
theorem ok__law_transaction (T : TX K mg w) : FnOk P w K mg base CX0 4 T.a__law_transaction T.d__law_transaction ["entries", "draws"] (spP K (P2 fun e d => e = .list [] ∧ DrL 106 d) (Q2 fun _ _ y => ∃ c p d, y = .tuple [.tuple c, .tuple p, .tuple d] ∧ GoodT c p d)) := by
  refine okP T.F__law_transaction sc__law_transaction 10 rfl P2.len fun cdv A outer s H E hr => ⟨_, (pss_cons (ps_set (i := 2) sc__law_transaction.nd rfl (Or.inl rfl) (pe_tup pa_nil))
      (pss_cons (ps_set (i := 3) sc__law_transaction.nd rfl (Or.inl rfl) (pe_tup pa_nil))
      (pss_cons (ps_set (i := 4) sc__law_transaction.nd rfl (Or.inl rfl) (pe_lst pa_nil))
      (pss_cons (ps_for PassesOwn.never rfl (pi_range1 (by rfl) T.n_range (pa_cons (pe_op op_mod (pe_callTy call_intN (by rfl) T.n_int (by decide +kernel) (pa_cons (pe_ix (ixK_list (K := K) rfl) (pv 1) pe_int (fun _ _ => rfl)) pa_nil)) pe_int) pa_nil)) (pg_name (i := 5) sc__law_transaction.nd rfl (Or.inl rfl))
        (pss_cons (ps_set (i := 6) sc__law_transaction.nd rfl (Or.inl rfl) (pe_slice (slKx_list (K := K) rfl) (pv 1) (po_some (pe_op op_add pe_int (pe_op op_mul pe_int (pv 5)))) (po_some (pe_op op_add pe_int (pe_op op_mul pe_int (pv 5))))))
        (pss_cons (ps_asg (pe_call (ok__law_key T) (hr.mono (by decide)) (by rfl) T.g__law_key T.F__law_key.kp T.b__law_key .nil pass0 (pa_cons (pv 6) pa_nil)) (pgK_tup (K := K) (n := 2) rfl rfl (pgs_cons (pg_name (i := 7) sc__law_transaction.nd rfl (Or.inl rfl)) (pgs_cons (pg_name (i := 8) sc__law_transaction.nd rfl (Or.inl rfl)) pgs_nil))))
        (pss_cons (ps_if (PW.pt (pw_and (pt_cmpR (opK_neD (K := K) rfl hr.units) (pv 0) (pe_lst pa_nil) (nomark _)) (pw_and1 (pt_cmpR op_eq (pe_op op_mod (pe_ix (ixK_list (K := K) rfl) (pv 6) pe_int (fun _ _ => rfl)) pe_int) pe_int (nomark _))))) (pss_one (ps_asg (pe_slice sl_list (pe_ix (ixK_list (K := K) rfl) (pv 0) (pe_op op_mod (pe_callTy call_intN (by rfl) T.n_int (by decide +kernel) (pa_cons (pe_ix (ixK_list (K := K) rfl) (pv 6) pe_int (fun _ _ => rfl)) pa_nil)) (pe_callB (callK_len (K := K) rfl) (by rfl) T.n_len PySem.boot_len (pa_cons (pv 0) pa_nil))) (fun _ _ => rfl)) po_none (po_some pe_int)) (pgK_tup (K := K) (n := 2) rfl rfl (pgs_cons (pg_name (i := 7) sc__law_transaction.nd rfl (Or.inl rfl)) (pgs_cons (pg_name (i := 8) sc__law_transaction.nd rfl (Or.inl rfl)) pgs_nil))))) pss_nil)
        (pss_one (ps_if (pt_cmpR (opK_notInD (K := K) rfl (hu65 hr)) (pe_tup (pa_cons (pv 7) (pa_cons (pv 8) pa_nil))) (pv 4) rfl) (pss_cons (ps_expr (peK_bm (K := K) rfl PySem.F.plainAttrs_list PySem.F.slot_list_append PySem.F.type_list_append mt_append (pv 4) (pa_cons (pe_tup (pa_cons (pv 7) (pa_cons (pv 8) pa_nil))) pa_nil)))
          (pss_one (ps_if (pt_cmpR op_eq (pe_op op_mod (pe_ix (ixK_list (K := K) rfl) (pv 6) pe_int (fun _ _ => rfl)) pe_int) pe_int (nomark _)) (pss_one (ps_set (i := 3) sc__law_transaction.nd rfl (Or.inl rfl) (pe_op (opK_catA (K := K) rfl) (pv 3) (pe_tup (pa_cons (pe_tup (pa_cons (pv 7) (pa_cons (pv 8) pa_nil))) pa_nil))))) (pss_one (ps_set (i := 2) sc__law_transaction.nd rfl (Or.inl rfl) (pe_op (opK_catA (K := K) rfl) (pv 2) (pe_tup (pa_cons (pe_tup (pa_cons (pv 7) (pa_cons (pv 8) (pa_cons (pe_call (ok__law_worth T) (hr.mono (by decide)) (by rfl) T.g__law_worth T.F__law_worth.kp T.b__law_worth .nil pass0 (pa_cons (pv 7) (pa_cons (pe_slice (slKx_list (K := K) rfl) (pv 6) (po_some pe_int) po_none) pa_nil))) pa_nil)))) pa_nil)))))))) pss_nil))))))
      (pss_cons (ps_set (i := 9) sc__law_transaction.nd rfl (Or.inl rfl) (pe_tup pa_nil))
      (pss_cons (ps_for PassesOwn.never rfl (pi_range1 (by rfl) T.n_range (pa_cons (pe_op op_mod (pe_callTy call_intN (by rfl) T.n_int (by decide +kernel) (pa_cons (pe_ix (ixK_list (K := K) rfl) (pv 1) pe_int (fun _ _ => rfl)) pa_nil)) pe_int) pa_nil)) (pg_name (i := 5) sc__law_transaction.nd rfl (Or.inl rfl))
        (pss_cons (ps_set (i := 6) sc__law_transaction.nd rfl (Or.inl rfl) (pe_slice (slKx_list (K := K) rfl) (pv 1) (po_some (pe_op op_add pe_int (pe_op op_mul pe_int (pv 5)))) (po_some (pe_op op_add pe_int (pe_op op_mul pe_int (pv 5))))))
        (pss_cons (ps_asg (pe_call (ok__law_key T) (hr.mono (by decide)) (by rfl) T.g__law_key T.F__law_key.kp T.b__law_key .nil pass0 (pa_cons (pv 6) pa_nil)) (pgK_tup (K := K) (n := 2) rfl rfl (pgs_cons (pg_name (i := 7) sc__law_transaction.nd rfl (Or.inl rfl)) (pgs_cons (pg_name (i := 8) sc__law_transaction.nd rfl (Or.inl rfl)) pgs_nil))))
        (pss_cons (ps_if (PW.pt (pw_and (pt_cmpR (opK_neD (K := K) rfl hr.units) (pv 0) (pe_lst pa_nil) (nomark _)) (pw_and1 (pt_cmpR op_gt (pe_op op_mod (pe_ix (ixK_list (K := K) rfl) (pv 6) pe_int (fun _ _ => rfl)) pe_int) pe_int (nomark _))))) (pss_one (ps_asg (pe_slice sl_list (pe_ix (ixK_list (K := K) rfl) (pv 0) (pe_op op_mod (pe_callTy call_intN (by rfl) T.n_int (by decide +kernel) (pa_cons (pe_ix (ixK_list (K := K) rfl) (pv 6) pe_int (fun _ _ => rfl)) pa_nil)) (pe_callB (callK_len (K := K) rfl) (by rfl) T.n_len PySem.boot_len (pa_cons (pv 0) pa_nil))) (fun _ _ => rfl)) po_none (po_some pe_int)) (pgK_tup (K := K) (n := 2) rfl rfl (pgs_cons (pg_name (i := 7) sc__law_transaction.nd rfl (Or.inl rfl)) (pgs_cons (pg_name (i := 8) sc__law_transaction.nd rfl (Or.inl rfl)) pgs_nil))))) pss_nil)
        (pss_cons (ps_set (i := 10) sc__law_transaction.nd rfl (Or.inl rfl) (pe_call (ok__law_find T) (hr.mono (by decide)) (by rfl) T.g__law_find T.F__law_find.kp T.b__law_find .nil pass0 (pa_cons (pv 0) (pa_cons (pv 7) (pa_cons (pv 8) pa_nil)))))
        (pss_cons (ps_set (i := 11) sc__law_transaction.nd rfl (Or.inl rfl) pe_int)
        (pss_cons (ps_if (pt_cmpR op_notN1 (pv 10) pe_non (nomark _)) (pss_one (ps_set (i := 11) sc__law_transaction.nd rfl (Or.inl rfl) (pe_ix (ixK_list (K := K) rfl) (pv 10) pe_int (fun _ _ => rfl)))) pss_nil)
        (pss_cons (ps_if (pt_cmpR op_eq (pe_op op_mod (pe_ix (ixK_list (K := K) rfl) (pv 6) pe_int (fun _ _ => rfl)) pe_int) pe_int (nomark _)) (pss_one (ps_set (i := 11) sc__law_transaction.nd rfl (Or.inl rfl) (pe_op op_mod (pe_callTy call_intN (by rfl) T.n_int (by decide +kernel) (pa_cons (pe_ix (ixK_list (K := K) rfl) (pv 6) pe_int (fun _ _ => rfl)) pa_nil)) pe_int))) pss_nil)
        (pss_one (ps_set (i := 9) sc__law_transaction.nd rfl (Or.inl rfl) (pe_op (opK_catA (K := K) rfl) (pv 9) (pe_tup (pa_cons (pe_tup (pa_cons (pv 7) (pa_cons (pv 8) (pa_cons (pv 11) pa_nil)))) pa_nil)))))))))))))
      (pss_one (ps_ret (pe_tup (pa_cons (pv 9) (pa_cons (pv 2) (pa_cons (pv 3) pa_nil)))))))))))), fun ds hd => ?_⟩
  obtain ⟨_, x, rfl, rfl, ds, rfl, hD, h5, h9⟩ := hd
  obtain ⟨d0, e0, b0⟩ := dr_ix hD (i := 0) (by omega) (by omega)
  obtain ⟨d1, e1, b1⟩ := dr_ix hD (i := 1) (by omega) (by omega)
  have hee : (PyData.list []).eqv (.list []) = true := by decide +kernel
  walk_at "pn"
  walk_at "px"
  refine ws_for ?_
  walk_at "px"
  refine ⟨List PyData × List PyData × List PyData, fun s => [.d (.list []), .d (.list (ds.map .int)), .d (.tuple s.1), .d (.tuple s.2.1), .o s.2.2, .u, .u, .u, .u, .u, .u, .u], fun _ => (), fun i s => GatherT i s.1 s.2.1 s.2.2, nxt ([], [], []) (by walk_at "wk") rfl ⟨Nat.le_refl _, Nat.le_refl _, Nat.le_refl _, rfl, rfl, .nil, (fun _ h => nomatch h), (fun _ h => nomatch h), (fun _ h => nomatch h), (fun _ h => nomatch h)⟩, fun i x s hx hI => ?_, fun s hI => ?_⟩
  · obtain ⟨hi, rfl⟩ := nums_at hx
    clear hx
    obtain ⟨p, d, ks⟩ := s
    have hI : GatherT i p d ks := hI
    have hi3 : i < 3 := by omega
    refine wg_name ?_
    walk_at "pn"
    refine ws_mid [.d (.list []), .d (.list (ds.map .int)), .d (.tuple p), .d (.tuple d), .o ks, .d (.int (0 + (i : Int))), .o (cutD (ds.map PyData.int) (some (4 + 24 * (0 + (i : Int)))) (some (28 + 24 * (0 + (i : Int))))), .u, .u, .u, .u, .u] (by walk_at "px"; exact rfl) ?_
    refine ws_freeze 6 rfl ?_
    rw [cut_at (a := 4 + 24 * i) (n := 24) (by omega) (by omega)]
    have hP : Drawn ((ds.drop (4 + 24 * i)).take 24) := drawn_take _ (drawn_drop _ hD)
    have hPl : ((ds.drop (4 + 24 * i)).take 24).length = 24 := by rw [List.length_take, List.length_drop]; omega
    generalize (ds.drop (4 + 24 * i)).take 24 = ps at hP hPl
    obtain ⟨d7, e7, b7⟩ := dr_ix hP (i := 7) (by omega) (by omega)
    walk_at "pn"
    walk_at "px"
    refine ⟨⟨ps, rfl, hP, by omega, by omega⟩, fun y ⟨kd, nm, ey, hky, h13⟩ => ?_⟩
    subst ey
    walk_at "px"
    have hx2 : is2S (.tuple [.str kd, .str nm]) := ⟨kd, nm, rfl⟩
    have hxo : okx 3 (.tuple [.str kd, .str nm]) = true := okx_tup_of (by simp) (by simp [(ky_okx (n := 2) (m := 2) hky).1, (ky_okx (n := 2) (m := 2) hky).2])
    have hx13 : no13 (.tuple [.str kd, .str nm]) := fun a n e => by cases e; exact h13
    have hlk := hI.lk
    have hlp := hI.lp
    have hld := hI.ld
    refine opP_notInD rfl rfl (okx_sh (n := 8) (okx_mono (by decide) hxo)) (okx_sh (n := 8) (okx_mono (n := 4) (by decide) (okx_lst_of (by omega) hI.o))) ?_
    walk_at "px"
    walk_at "pi"
    · intro h1
      have hn : PyData.tuple [.str kd, .str nm] ∉ ks := fun h => by
        have h2 : (ks.any fun z => z.eqv (.tuple [.str kd, .str nm])) = true := List.any_eq_true.mpr ⟨_, h, eqv_self2⟩
        rw [show (ks.any fun z => z.eqv (.tuple [.str kd, .str nm])) = false from h1] at h2
        cases h2
      obtain ⟨kd', hkd, ek⟩ := isKy_kind hky
      cases ek
      walk_at "px"
      walk_at "pi"
      · intro h2
        walk_at "px"
        try (refine opP_catT (by show d.length + 1 ≤ _; omega) ?_)
        walk_at "px"
        exact nxt (p, d ++ [.tuple [.str kd, .str nm]], ks ++ [.tuple [.str kd, .str nm]]) (by walk_at "wk") rfl (hI.del hx2 hxo hx13 hn hky)
      · intro h2
        walk_at "px"
        refine ⟨⟨⟨_, hkd, rfl⟩, drL_from 8 hP (by omega) (by omega)⟩, fun y hy => ?_⟩
        obtain ⟨hf, vs, rfl⟩ := hy kd rfl
        walk_at "px"
        try (refine opP_catT (by show p.length + 1 ≤ _; omega) ?_)
        walk_at "px"
        refine nxt (p ++ [.tuple [.str kd, .str nm, .tuple vs]], d, ks ++ [.tuple [.str kd, .str nm]]) (by walk_at "wk") rfl (hI.put hx2 hxo hx13 hn ?_ rfl)
        show (isKy _ _ && (true && formOf kd _)) = true
        rw [hky, hf]; rfl
    · intro h1
      walk_at "px"
      exact nxt (p, d, ks) (by walk_at "wk") rfl hI.keep
  · obtain ⟨p, d, ks⟩ := s
    have hI : GatherT _ p d ks := hI
    have hlp := hI.lp
    have hld := hI.ld
    rw [nums_len] at hlp hld
    walk_at "px"
    refine ws_for ?_
    walk_at "px"
    refine ⟨List PyData, fun c => [.d (.list []), .d (.list (ds.map .int)), .d (.tuple p), .d (.tuple d), .u, .u, .u, .u, .u, .d (.tuple c), .u, .u], fun _ => (), fun i c => c.length ≤ i ∧ c.all isCond = true, nxt [] (by walk_at "wk") rfl ⟨Nat.le_refl _, rfl⟩, fun i x c hx hJ => ?_, fun c hJ => ?_⟩
    · obtain ⟨hi, rfl⟩ := nums_at hx
      clear hx
      obtain ⟨j1, j2⟩ := hJ
      have hi3 : i < 3 := by omega
      refine wg_name ?_
      walk_at "pn"
      refine ws_mid [.d (.list []), .d (.list (ds.map .int)), .d (.tuple p), .d (.tuple d), .u, .d (.int (0 + (i : Int))), .o (cutD (ds.map PyData.int) (some (76 + 10 * (0 + (i : Int)))) (some (86 + 10 * (0 + (i : Int))))), .u, .u, .d (.tuple c), .u, .u] (by walk_at "px"; exact rfl) ?_
      refine ws_freeze 6 rfl ?_
      rw [cut_at (a := 76 + 10 * i) (n := 10) (by omega) (by omega)]
      have hP : Drawn ((ds.drop (76 + 10 * i)).take 10) := drawn_take _ (drawn_drop _ hD)
      have hPl : ((ds.drop (76 + 10 * i)).take 10).length = 10 := by rw [List.length_take, List.length_drop]; omega
      generalize (ds.drop (76 + 10 * i)).take 10 = ps at hP hPl
      obtain ⟨d7, e7, b7⟩ := dr_ix hP (i := 7) (by omega) (by omega)
      obtain ⟨d6, e6, b6⟩ := dr_ix hP (i := 6) (by omega) (by omega)
      obtain ⟨d5, e5, b5⟩ := dr_ix hP (i := 5) (by omega) (by omega)
      walk_at "pn"
      walk_at "px"
      refine ⟨⟨ps, rfl, hP, by omega, by omega⟩, fun y ⟨kd, nm, ey, hky, h13⟩ => ?_⟩
      subst ey
      have add : ∀ r : Int, 0 ≤ r → r < 1000 → (c ++ [PyData.tuple [.str kd, .str nm, .int r]]).length ≤ i + 1 ∧ (c ++ [PyData.tuple [.str kd, .str nm, .int r]]).all isCond = true := fun r h0 h1 => by
        refine ⟨by rw [List.length_append]; exact Nat.succ_le_succ j1, ?_⟩
        rw [List.all_append, j2]
        show (true && ((isKy _ _ && intIn (.int r) 0 1000000000000) && true)) = true
        rw [hky, in_dec (by omega)]; rfl
      walk_at "px"
      walk_at "pi"
      · intro h1
        walk_at "px"
        try (refine opP_catT (by show c.length + 1 ≤ _; omega) ?_)
        walk_at "px"
        exact nxt _ (by walk_at "wk") rfl (add (d5 % 12) (by omega) (by omega))
      · intro h1
        walk_at "px"
        try (refine opP_catT (by show c.length + 1 ≤ _; omega) ?_)
        walk_at "px"
        exact nxt _ (by walk_at "wk") rfl (add 0 (by omega) (by omega))
    · obtain ⟨j1, j2⟩ := hJ
      rw [nums_len] at j1
      walk_at "px"
      exact q2d ⟨c, p, d, rfl, by omega, by omega, by omega, j2, hI.ap, hI.ad, hI.k, hI.n⟩
end
section
variable {P : Program} {w : World} {K : PySem.W.Frag} {mg : Str → Option Value} {base : Heap}
theorem ok__law_refused (T : TX K mg w) : FnOk P w K mg base CX0 8 T.a__law_refused T.d__law_refused ["transaction"] (spP K (P1 fun x => okx 8 x = true ∧ isTrans x = false) (R1 fun _ => .bool true)) := by
  refine T.F__law_refused.ok sc__law_refused (fun vs H Q E h => ?_) (fun cdv A outer s H vs Q E hr h => ?_)
  · obtain ⟨ds, B, hd, hB, ⟨x, rfl, _⟩, _⟩ := h
    exact dqa_len hd
  · obtain ⟨_, B, hd, hB, ⟨x, rfl, hx, ht⟩, q⟩ := h
    obtain ⟨v, rfl, hv⟩ : ∃ v, vs = [v] ∧ Dq K B v x := by
      cases hd with
      | cons h1 h2 => cases h2; exact ⟨_, rfl, h1⟩
    have out : ∀ G, Same H G → Q (.bl true) G := fun G sG => q (.bl true) (.d (.bool true)) G B (fun x hx => rfl) sG (Same.refl _) (hB.trans sG) (fun _ _ h => h) (.bl true)
    refine ⟨_, (pss_cons (ps_try_as (i := 1) rfl rfl sc__law_refused.nd rfl rfl ⟨rfl, by decide, .inl T.g_StoreError⟩ takes0 (fun W pn xe tk po => (pss_one (ps_expr (pe_callS (ok_check_transaction T) (hr.mono (by decide)) (by rfl) T.g_check_transaction T.F_check_transaction.kp T.b_check_transaction (fun σ => passAt tk σ) (pa_cons (pv 0) pa_nil))))) (fun a oe cls d pn hz hf => (pss_one (ps_ret (pe_and (pe_callB (call_isE1 T.X_BadTransaction hz hf) (by rfl) T.n_isinstance (by decide +kernel) (pa_cons (pv 1) (pa_cons (pe_glob (v := .ref T.a_BadTransaction) (by rfl) T.g_BadTransaction rfl) pa_nil))) (pe_and (pe_not (pe_callB (call_isE1 T.X_BadTransaction hz hf) (by rfl) T.n_isinstance (by decide +kernel) (pa_cons (pv 1) (pa_cons (pe_glob (v := .ref T.a_TooNew) (by rfl) T.g_TooNew rfl) pa_nil)))) (pe_one (pe_not (pe_callB (call_isE1 T.X_BadTransaction hz hf) (by rfl) T.n_isinstance (by decide +kernel) (pa_cons (pv 1) (pa_cons (pe_glob (v := .ref T.a_CodecError) (by rfl) T.g_CodecError rfl) pa_nil)))))))))))
      (pss_one (ps_ret pe_bl))), ?_⟩
    refine ⟨v, rfl, [x], B, .cons hv .nil, hB, ⟨x, rfl, hx⟩, fun w r H' B' hpost => ?_, fun C H' hbad sG => ?_⟩
    · have := (hpost x rfl).1
      rw [ht] at this
      cases this
    · obtain ⟨y, e, _, rfl⟩ := hbad
      refine ⟨true, T.em_StoreError_BadTransaction, fun _ a' ha' => ?_, fun z => Bool.noConfusion z⟩
      refine ⟨_, rfl, rfl, rfl, _, _, true, rfl, (fun _ r => r), T.y_BadTransaction_BadTransaction, true, rfl, ifbt rfl ?_⟩
      refine ⟨_, rfl, rfl, rfl, _, _, false, rfl, (fun _ r => r), T.y_BadTransaction_TooNew, false, rfl, true, rfl, ifbt rfl ?_⟩
      exact ⟨_, rfl, rfl, rfl, _, _, false, rfl, (fun _ r => r), T.y_BadTransaction_CodecError, false, rfl, out _ sG⟩
end
theorem badC {c p d : List PyData} {y : PyData} (hy : y ∈ c) (h : isCond y = false) : isTrans (.tuple [.tuple c, .tuple p, .tuple d]) = false := by
  rw [Bool.eq_false_iff]
  intro h2
  obtain ⟨c', p', d', e, _, _, _, h4, _⟩ := isTrans_tup h2
  cases e
  rw [List.all_eq_true.mp h4 y hy] at h
  cases h
theorem badP {c p d : List PyData} {y : PyData} (hy : y ∈ p) (h : isPut y = false) : isTrans (.tuple [.tuple c, .tuple p, .tuple d]) = false := by
  rw [Bool.eq_false_iff]
  intro h2
  obtain ⟨c', p', d', e, _, _, _, _, h4, _⟩ := isTrans_tup h2
  cases e
  rw [List.all_eq_true.mp h4 y hy] at h
  cases h
theorem badD {c p d : List PyData} {y : PyData} (hy : y ∈ d) (h : isDel y = false) : isTrans (.tuple [.tuple c, .tuple p, .tuple d]) = false := by
  rw [Bool.eq_false_iff]
  intro h2
  obtain ⟨c', p', d', e, _, _, _, _, _, h4, _⟩ := isTrans_tup h2
  cases e
  rw [List.all_eq_true.mp h4 y hy] at h
  cases h
theorem badK {c p d : List PyData} (h : ¬ ((p.map put2 ++ d).map keyOf).Nodup) : isTrans (.tuple [.tuple c, .tuple p, .tuple d]) = false := by
  rw [Bool.eq_false_iff]
  intro h2
  obtain ⟨c', p', d', e, _, _, _, _, _, _, h4⟩ := isTrans_tup h2
  cases e
  exact h (of_decide_eq_true h4)
theorem badL {c p d : List PyData} (h : 12 < c.length) : isTrans (.tuple [.tuple c, .tuple p, .tuple d]) = false := by
  rw [Bool.eq_false_iff]
  intro h2
  obtain ⟨c', p', d', e, h1, _⟩ := isTrans_tup h2
  cases e
  omega
theorem mkT {c p d : List PyData} (lc : c.length ≤ 100) (lp : p.length ≤ 100) (ld : d.length ≤ 100) (hc : ∀ y ∈ c, okx 6 y = true) (hp : ∀ y ∈ p, okx 6 y = true) (hd : ∀ y ∈ d, okx 6 y = true) : okx 8 (.tuple [.tuple c, .tuple p, .tuple d]) = true := by
  refine okx_tup_of (by simp) fun y hy => ?_
  simp only [List.mem_cons, List.not_mem_nil, or_false] at hy
  rcases hy with rfl | rfl | rfl
  · exact okx_tup_of (by omega) hc
  · exact okx_tup_of (by omega) hp
  · exact okx_tup_of (by omega) hd
theorem okAdd {p xs : List PyData} (hp : ∀ y ∈ p, okx 6 y = true) (hx : xs.all (okx 6) = true) : ∀ y ∈ p ++ xs, okx 6 y = true := fun y hy => by
  rcases List.mem_append.mp hy with h | h
  · exact hp y h
  · exact List.all_eq_true.mp hx y h
theorem okx_tup5 {n : Nat} {xs : List PyData} {u : PyData} (h : okx (n + 1) (.tuple xs) = true) (hu : u ∈ xs) : okx n u = true := by
  unfold okx at h
  rw [Bool.and_eq_true, List.all_eq_true] at h
  exact h.2 u hu
def WrongT (y : PyData) : Prop := okx 8 y = true ∧ isTrans y = false
section
variable {P : Program} {w : World} {K : PySem.W.Frag} {mg : Str → Option Value} {base : Heap}
theorem ok__law_wrong (T : TX K mg w) : FnOk P w K mg base CX0 1 T.a__law_wrong T.d__law_wrong ["transaction", "draws"] (spP K (P2 fun t x => (∃ c p d, t = .tuple [.tuple c, .tuple p, .tuple d] ∧ c.length ≤ 12 ∧ p.length ≤ 3 ∧ d.length ≤ 3 ∧ (∀ y ∈ c, okx 6 y = true) ∧ (∀ y ∈ p, okx 6 y = true ∧ isPut y = true) ∧ ∀ y ∈ d, okx 6 y = true) ∧ DrL 1 x) (L2' fun _ _ ys => ys.length ≤ 30 ∧ ∀ y ∈ ys, WrongT y)) := by
  refine okP T.F__law_wrong sc__law_wrong 7 rfl P2.len fun cdv A outer s H E hr => ⟨_, (pss_cons (ps_asg (pv 0) (pgK_tup (K := K) (n := 3) rfl rfl (pgs_cons (pg_name (i := 2) sc__law_wrong.nd rfl (Or.inl rfl)) (pgs_cons (pg_name (i := 3) sc__law_wrong.nd rfl (Or.inl rfl)) (pgs_cons (pg_name (i := 4) sc__law_wrong.nd rfl (Or.inl rfl)) pgs_nil)))))
      (pss_cons (ps_set (i := 5) sc__law_wrong.nd rfl (Or.inl rfl) (pe_tup (pa_cons pe_str (pa_cons pe_str (pa_cons (pe_tup (pa_cons pe_str pa_nil)) pa_nil)))))
      (pss_cons (ps_set (i := 6) sc__law_wrong.nd rfl (Or.inl rfl) (pe_lst (pa_cons (pe_tup (pa_cons (pv 2) (pa_cons (pv 3) pa_nil))) (pa_cons (pe_tup (pa_cons (pv 2) (pa_cons (pv 3) (pa_cons (pv 4) (pa_cons (pe_tup pa_nil) pa_nil))))) (pa_cons (pe_lst (pa_cons (pv 2) (pa_cons (pv 3) (pa_cons (pv 4) pa_nil)))) (pa_cons (pe_tup (pa_cons (pv 2) (pa_cons (pe_callTy (callK_list (K := K) rfl) (by rfl) T.n_list (by decide +kernel) (pa_cons (pv 3) pa_nil)) (pa_cons (pv 4) pa_nil)))) pa_nil))))))
      (pss_cons (ps_expr (peK_bm (K := K) rfl PySem.F.plainAttrs_list PySem.F.slot_list_append PySem.F.type_list_append mt_append (pv 6) (pa_cons (pe_tup (pa_cons (pe_op (opK_catA (K := K) rfl) (pv 2) (pe_tup (pa_cons (pe_tup (pa_cons pe_str (pa_cons pe_str (pa_cons (pe_un un_neg pe_int) pa_nil)))) pa_nil))) (pa_cons (pv 3) (pa_cons (pv 4) pa_nil)))) pa_nil)))
      (pss_cons (ps_expr (peK_bm (K := K) rfl PySem.F.plainAttrs_list PySem.F.slot_list_append PySem.F.type_list_append mt_append (pv 6) (pa_cons (pe_tup (pa_cons (pe_op (opK_catA (K := K) rfl) (pv 2) (pe_tup (pa_cons (pe_tup (pa_cons pe_str (pa_cons pe_str (pa_cons pe_bl pa_nil)))) pa_nil))) (pa_cons (pv 3) (pa_cons (pv 4) pa_nil)))) pa_nil)))
      (pss_cons (ps_expr (peK_bm (K := K) rfl PySem.F.plainAttrs_list PySem.F.slot_list_append PySem.F.type_list_append mt_append (pv 6) (pa_cons (pe_tup (pa_cons (pe_op (opK_catA (K := K) rfl) (pv 2) (pe_tup (pa_cons (pe_tup (pa_cons pe_str (pa_cons pe_str pa_nil))) pa_nil))) (pa_cons (pv 3) (pa_cons (pv 4) pa_nil)))) pa_nil)))
      (pss_cons (ps_expr (peK_bm (K := K) rfl PySem.F.plainAttrs_list PySem.F.slot_list_append PySem.F.type_list_append mt_append (pv 6) (pa_cons (pe_tup (pa_cons (pe_op (opK_catA (K := K) rfl) (pv 2) (pe_tup (pa_cons (pe_tup (pa_cons pe_str (pa_cons pe_str (pa_cons pe_int pa_nil)))) pa_nil))) (pa_cons (pv 3) (pa_cons (pv 4) pa_nil)))) pa_nil)))
      (pss_cons (ps_expr (peK_bm (K := K) rfl PySem.F.plainAttrs_list PySem.F.slot_list_append PySem.F.type_list_append mt_append (pv 6) (pa_cons (pe_tup (pa_cons (pv 2) (pa_cons (pe_op (opK_catA (K := K) rfl) (pv 3) (pe_tup (pa_cons (pe_tup (pa_cons pe_str (pa_cons pe_str (pa_cons (pe_tup (pa_cons pe_str pa_nil)) pa_nil)))) pa_nil))) (pa_cons (pv 4) pa_nil)))) pa_nil)))
      (pss_cons (ps_expr (peK_bm (K := K) rfl PySem.F.plainAttrs_list PySem.F.slot_list_append PySem.F.type_list_append mt_append (pv 6) (pa_cons (pe_tup (pa_cons (pv 2) (pa_cons (pe_op (opK_catA (K := K) rfl) (pv 3) (pe_tup (pa_cons (pe_tup (pa_cons pe_str (pa_cons pe_str (pa_cons (pe_tup (pa_cons pe_str pa_nil)) pa_nil)))) pa_nil))) (pa_cons (pv 4) pa_nil)))) pa_nil)))
      (pss_cons (ps_expr (peK_bm (K := K) rfl PySem.F.plainAttrs_list PySem.F.slot_list_append PySem.F.type_list_append mt_append (pv 6) (pa_cons (pe_tup (pa_cons (pv 2) (pa_cons (pe_op (opK_catA (K := K) rfl) (pv 3) (pe_tup (pa_cons (pe_lst (pa_cons pe_str (pa_cons pe_str (pa_cons (pe_tup (pa_cons pe_str pa_nil)) pa_nil)))) pa_nil))) (pa_cons (pv 4) pa_nil)))) pa_nil)))
      (pss_cons (ps_expr (peK_bm (K := K) rfl PySem.F.plainAttrs_list PySem.F.slot_list_append PySem.F.type_list_append mt_append (pv 6) (pa_cons (pe_tup (pa_cons (pv 2) (pa_cons (pe_op (opK_catA (K := K) rfl) (pv 3) (pe_tup (pa_cons (pv 5) (pa_cons (pv 5) pa_nil)))) (pa_cons (pv 4) pa_nil)))) pa_nil)))
      (pss_cons (ps_expr (peK_bm (K := K) rfl PySem.F.plainAttrs_list PySem.F.slot_list_append PySem.F.type_list_append mt_append (pv 6) (pa_cons (pe_tup (pa_cons (pv 2) (pa_cons (pe_op (opK_catA (K := K) rfl) (pv 3) (pe_tup (pa_cons (pv 5) pa_nil))) (pa_cons (pe_op (opK_catA (K := K) rfl) (pv 4) (pe_tup (pa_cons (pe_tup (pa_cons pe_str (pa_cons pe_str pa_nil))) pa_nil))) pa_nil)))) pa_nil)))
      (pss_cons (ps_expr (peK_bm (K := K) rfl PySem.F.plainAttrs_list PySem.F.slot_list_append PySem.F.type_list_append mt_append (pv 6) (pa_cons (pe_tup (pa_cons (pv 2) (pa_cons (pv 3) (pa_cons (pe_op (opK_catA (K := K) rfl) (pv 4) (pe_tup (pa_cons (pe_tup (pa_cons pe_str (pa_cons pe_str pa_nil))) (pa_cons (pe_tup (pa_cons pe_str (pa_cons pe_str pa_nil))) pa_nil)))) pa_nil)))) pa_nil)))
      (pss_cons (ps_expr (peK_bm (K := K) rfl PySem.F.plainAttrs_list PySem.F.slot_list_append PySem.F.type_list_append mt_append (pv 6) (pa_cons (pe_tup (pa_cons (pv 2) (pa_cons (pv 3) (pa_cons (pe_op (opK_catA (K := K) rfl) (pv 4) (pe_tup (pa_cons (pe_tup (pa_cons pe_str (pa_cons pe_str (pa_cons pe_int pa_nil)))) pa_nil))) pa_nil)))) pa_nil)))
      (pss_cons (ps_expr (peK_bm (K := K) rfl PySem.F.plainAttrs_list PySem.F.slot_list_append PySem.F.type_list_append mt_append (pv 6) (pa_cons (pe_tup (pa_cons (pv 2) (pa_cons (pv 3) (pa_cons (pe_op (opK_catA (K := K) rfl) (pv 4) (pe_tup (pa_cons (pe_lst (pa_cons pe_str (pa_cons pe_str pa_nil))) pa_nil))) pa_nil)))) pa_nil)))
      (pss_cons (ps_expr (peK_bm (K := K) rfl PySem.F.plainAttrs_list PySem.F.slot_list_append PySem.F.type_list_append mt_append (pv 6) (pa_cons (pe_tup (pa_cons (pe_op (opK_repT (K := K) rfl) (pe_tup (pa_cons (pe_tup (pa_cons pe_str (pa_cons pe_str (pa_cons pe_int pa_nil)))) pa_nil)) (pe_op op_add pe_int (pe_op op_mod (pe_callTy call_intN (by rfl) T.n_int (by decide +kernel) (pa_cons (pe_ix (ixK_list (K := K) rfl) (pv 1) pe_int (fun _ _ => rfl)) pa_nil)) pe_int))) (pa_cons (pv 3) (pa_cons (pv 4) pa_nil)))) pa_nil)))
      (pss_cons (ps_for PassesOwn.never rfl (piK_list (K := K) rfl (pe_op op_cat (pe_lc (own := [("one", 8)]) (g := gName 8) (tt := tYes) (by rfl) sc__law_wrong.nd (piK_tup (K := K) rfl (pv 3)) (blkOk_by (own := [("one", 8)]) (N := ["transaction", "draws", "conditions", "puts", "deletes", "extra", "wrong", "key", "one"]) (sc := defScope s__law_wrong) (by decide +kernel)) (fun _ _ _ _ _ => pg_name (i := 8) sc__law_wrong.nd rfl (Or.inl rfl)) (fun _ _ _ _ _ => pts_nil) (fun _ _ _ _ _ => (pe_slice (slK_tupA (K := K) rfl) (pv 8) po_none (po_some pe_int)))) (pe_callTy (callK_list (K := K) rfl) (by rfl) T.n_list (by decide +kernel) (pa_cons (pv 4) pa_nil)))) (pg_name (i := 7) sc__law_wrong.nd rfl (Or.inl rfl))
        (pss_one (ps_expr (peK_bm (K := K) rfl PySem.F.plainAttrs_list PySem.F.slot_list_append PySem.F.type_list_append mt_append (pv 6) (pa_cons (pe_tup (pa_cons (pv 2) (pa_cons (pv 3) (pa_cons (pe_op (opK_catA (K := K) rfl) (pv 4) (pe_tup (pa_cons (pv 7) pa_nil))) pa_nil)))) pa_nil)))))
      (pss_one (ps_ret (pv 6)))))))))))))))))))), fun ds hd => ?_⟩
  obtain ⟨t, x, rfl, ⟨c, p, d, rfl, lc, lp, ld, oc, op, od⟩, ds, rfl, hD, h5, h9⟩ := hd
  obtain ⟨d0, e0, b0⟩ := dr_ix hD (i := 0) (by omega) (by omega)
  walk_at "pn"
  have op6 : ∀ y ∈ p, okx 6 y = true := fun y hy => (op y hy).1
  have ap : p.all isPut = true := List.all_eq_true.mpr fun y hy => (op y hy).2
  have wc : ∀ x, okx 6 x = true → isCond x = false → WrongT (.tuple [.tuple (c ++ [x]), .tuple p, .tuple d]) := fun x hx h => ⟨mkT (by simp; omega) (by omega) (by omega) (okAdd oc (by simp [hx])) op6 od, badC (y := x) (by simp) h⟩
  have wp : ∀ x, okx 6 x = true → isPut x = false → WrongT (.tuple [.tuple c, .tuple (p ++ [x]), .tuple d]) := fun x hx h => ⟨mkT (by omega) (by simp; omega) (by omega) oc (okAdd op6 (by simp [hx])) od, badP (y := x) (by simp) h⟩
  have wd : ∀ x, okx 6 x = true → isDel x = false → WrongT (.tuple [.tuple c, .tuple p, .tuple (d ++ [x])]) := fun x hx h => ⟨mkT (by omega) (by omega) (by simp; omega) oc op6 (okAdd od (by simp [hx])), badD (y := x) (by simp) h⟩
  walk_at "px"
  have xc : okx 7 (.tuple c) = true := okx_tup_of (by omega) oc
  have xp : okx 7 (.tuple p) = true := okx_tup_of (by omega) op6
  have xd : okx 7 (.tuple d) = true := okx_tup_of (by omega) od
  have xl : okx 7 (.list p) = true := okx_lst_of (by omega) op6
  have w1 : WrongT (.tuple [.tuple c, .tuple p]) := ⟨okx_tup_of (by simp) (by simp [xc, xp]), rfl⟩
  have w2 : WrongT (.tuple [.tuple c, .tuple p, .tuple d, .tuple []]) := ⟨okx_tup_of (by simp) (by simp [xc, xp, xd]; rfl), rfl⟩
  have w3 : WrongT (.list [.tuple c, .tuple p, .tuple d]) := ⟨okx_lst_of (by simp) (by simp [xc, xp, xd]), rfl⟩
  have w4 : WrongT (.tuple [.tuple c, .list p, .tuple d]) := ⟨okx_tup_of (by simp) (by simp [xc, xl, xd]), rfl⟩
  have o1 : okx 6 (.tuple [.str "drain", .str "zz", .tuple [.str "text"]]) = true := by decide +kernel
  have o2 : okx 6 (.tuple [.str "drain", .str "zz"]) = true := by decide +kernel
  have w12 : WrongT (.tuple [.tuple c, .tuple (p ++ [.tuple [.str "drain", .str "zz", .tuple [.str "text"]], .tuple [.str "drain", .str "zz", .tuple [.str "text"]]]), .tuple d]) := ⟨mkT (by omega) (by simp; omega) (by omega) oc (okAdd op6 (by simp [o1])) od, badK fun h => by
    rw [List.map_append, List.map_append, List.map_append] at h
    have h2 := (List.nodup_append.mp (List.nodup_append.mp h).1).2.1
    exact (List.nodup_cons.mp h2).1 (List.mem_cons_self ..)⟩
  have w13 : WrongT (.tuple [.tuple c, .tuple (p ++ [.tuple [.str "drain", .str "zz", .tuple [.str "text"]]]), .tuple (d ++ [.tuple [.str "drain", .str "zz"]])]) := ⟨mkT (by omega) (by simp; omega) (by simp; omega) oc (okAdd op6 (by simp [o1])) (okAdd od (by simp [o2])), badK fun h => by
    rw [List.map_append, List.map_append] at h
    refine (List.nodup_append.mp h).2.2 _ (List.mem_map.mpr ⟨_, List.mem_append_right _ (List.mem_cons_self ..), rfl⟩) _ (List.mem_map.mpr ⟨_, List.mem_append_right _ (List.mem_cons_self ..), rfl⟩) rfl⟩
  have w14 : WrongT (.tuple [.tuple c, .tuple p, .tuple (d ++ [.tuple [.str "drain", .str "zz"], .tuple [.str "drain", .str "zz"]])]) := ⟨mkT (by omega) (by omega) (by simp; omega) oc op6 (okAdd od (by simp [o2])), badK fun h => by
    rw [← List.append_assoc, List.map_append] at h
    have h2 := (List.nodup_append.mp h).2.1
    exact (List.nodup_cons.mp h2).1 (List.mem_cons_self ..)⟩
  have o7 : okx 6 (.tuple [.str "node", .str "a", .int 1]) = true := by decide +kernel
  have w17 : WrongT (.tuple [.tuple (List.replicate (13 + d0 % 3).toNat [PyData.tuple [.str "node", .str "a", .int 1]]).flatten, .tuple p, .tuple d]) := by
    have hl : (List.replicate (13 + d0 % 3).toNat [PyData.tuple [.str "node", .str "a", .int 1]]).flatten.length = (13 + d0 % 3).toNat := by simp
    refine ⟨mkT (by rw [hl]; omega) (by omega) (by omega) (fun y hy => ?_) op6 od, badL (by rw [hl]; omega)⟩
    obtain ⟨l, h1, h2⟩ := List.mem_flatten.mp hy
    rw [List.eq_of_mem_replicate h1] at h2
    rw [List.mem_singleton.mp h2]; exact o7
  refine opP_repT ⟨by simp, by omega, by omega, by simp⟩ ?_
  walk_at "px"
  refine ws_for ?_
  walk_at "px"
  refine we_lcM (by walk_at "ww") rfl ?_
  walk_at "px"
  refine ⟨put2, by omega, fun x hx => ?_, ?_⟩
  · have hp := (op x hx).2
    cases x
    case tuple xs =>
      walk_at "pn"
      walk_at "px"
      exact rfl
    all_goals cases hp
  walk_at "px"
  refine opP_cat rfl rfl (by rw [List.length_map]; omega) ?_
  walk_at "px"
  refine ⟨List PyData, fun L => [.u, .u, .d (.tuple c), .d (.tuple p), .d (.tuple d), .u, .o L, .u, .u], fun _ => (), fun i L => L.length ≤ 17 + i ∧ ∀ y ∈ L, WrongT y, nxt _ (by walk_at "wk") rfl ⟨by simp, fun y hy => ?_⟩, fun i x L hx hI => ?_, fun L hI => ?_⟩
  · simp only [List.mem_append, List.mem_cons, List.not_mem_nil, or_false] at hy
    repeat' (rcases hy with hy | hy)
    all_goals first
      | exact w1
      | exact w2
      | exact w3
      | exact w4
      | exact w12
      | exact w13
      | exact w14
      | exact w17
      | exact wc _ (by decide +kernel) (by decide +kernel)
      | exact wp _ (by decide +kernel) (by decide +kernel)
      | exact wd _ (by decide +kernel) (by decide +kernel)
  · obtain ⟨j1, j2⟩ := hI
    have hm := List.mem_of_getElem? hx
    have hi := (List.getElem?_eq_some_iff.mp hx).1
    rw [List.length_append, List.length_map] at hi
    clear hx
    have ho : okx 6 x = true := by
      rcases List.mem_append.mp hm with h | h
      · obtain ⟨z, hz, rfl⟩ := List.mem_map.mp h
        have hz6 := (op z hz).1
        cases z with
        | tuple xs => exact okx_tup_of (Nat.le_trans cutD_le (okx_len hz6)) fun u hu => okx_tup5 hz6 (cutD_mem hu)
        | _ => rfl
      · exact od x h
    walk_at "px"
    refine nxt _ (by walk_at "wk") rfl ⟨by rw [List.length_append]; show L.length + 1 ≤ _; omega, fun y hy => ?_⟩
    rcases List.mem_append.mp hy with hy | hy
    · exact j2 y hy
    · rw [List.mem_singleton.mp hy]
      refine ⟨mkT (by omega) (by omega) (by simp; omega) oc op6 (okAdd od (by simp [ho])), badK fun h => ?_⟩
      rw [← List.append_assoc, List.map_append, List.nodup_append] at h
      exact h.2.2 _ (List.mem_map.mpr ⟨x, hm, rfl⟩) _ (by simp) rfl
  · obtain ⟨j1, j2⟩ := hI
    walk_at "px"
    rw [List.length_append, List.length_map] at j1
    exact l2o ⟨by omega, j2⟩
end
def sp_law (K : PySem.W.Frag) : Sp := fun vs H Q _ => ∃ (a : Addr) (ns : List Int), vs = [.ref a] ∧ SqL K H a (ns.map V.int) ∧ ns.length ≤ 63 ∧ ∀ H', Q (.bl true) H'
/-- a transaction with one put more -/
theorem one_more {c p d : List PyData} (lc : c.length ≤ 12) (ac : c.all isCond = true) (g : GoodT [] p d) {x : PyData} (hx : isPut x = true) (hk : ¬ no13 (put2 x)) : isTrans (.tuple [.tuple c, .tuple (p ++ [x]), .tuple d]) = true := by
  have lp := g.lp
  have ld := g.ld
  refine isTrans_of lc (by rw [List.length_append]; show p.length + 1 ≤ 12; omega) (by omega) ac (by rw [List.all_append, g.ap]; simp [hx]) g.ad (decide_eq_true ?_)
  have hperm : (List.map put2 (p ++ [x]) ++ d).Perm ((p.map put2 ++ d) ++ [put2 x]) := by
    rw [List.map_append, List.map_singleton, List.append_assoc, List.append_assoc]
    exact List.Perm.append_left _ List.perm_append_comm
  rw [(hperm.map keyOf).nodup_iff, List.map_append, List.nodup_append]
  refine ⟨g.k, by simp, fun a ha b hb => ?_⟩
  rw [List.map_singleton, List.mem_singleton] at hb
  rw [hb]
  intro e
  obtain ⟨y, hy, e2⟩ := List.mem_map.mp ha
  have y2 : is2S y := by
    rcases List.mem_append.mp hy with h | h
    · obtain ⟨z, hz, rfl⟩ := List.mem_map.mp h
      exact put_2S (List.all_eq_true.mp g.ap z hz)
    · exact del_2S (List.all_eq_true.mp g.ad y h)
  have := keyOf_inj y2 (put_2S hx) (e2.trans e)
  exact hk (this ▸ g.n y hy)
section
variable {P : Program} {w : World} {K : PySem.W.Frag} {mg : Str → Option Value} {base : Heap}
theorem ok_law (T : TX K mg w) : FnOk P w K mg base CX0 9 T.a_law T.d_law ["script"] (sp_law K) := by
  refine T.F_law.ok sc_law (fun vs H Q E h => ?_) (fun cdv A outer s H vs Q E hr h => ?_)
  · obtain ⟨a, ns, rfl, _⟩ := h
    rfl
  · obtain ⟨a, ns, rfl, hS, hlen, q⟩ := h
    refine ⟨_, (pss_cons (ps_set (i := 1) sc_law.nd rfl (Or.inl rfl) (pe_call (ok__law_draws T) (hr.mono (by decide)) (by rfl) T.g__law_draws T.F__law_draws.kp T.b__law_draws .nil pass0 (pa_cons (pv 0) (pa_cons pe_int pa_nil))))
      (pss_cons (ps_for PassesOwn.never rfl (pi_range1 (by rfl) T.n_range (pa_cons (pe_op op_add pe_int (pe_op op_mod (pe_callTy call_intN (by rfl) T.n_int (by decide +kernel) (pa_cons (pe_ix (ixK_list (K := K) rfl) (pv 1) pe_int (fun _ _ => rfl)) pa_nil)) pe_int)) pa_nil)) (pg_name (i := 2) sc_law.nd rfl (Or.inl rfl))
        (pss_cons (ps_set (i := 3) sc_law.nd rfl (Or.inl rfl) (pe_slice (slKx_list (K := K) rfl) (pv 1) (po_some (pe_op op_add pe_int (pe_op op_mul pe_int (pv 2)))) (po_some (pe_op op_add pe_int (pe_op op_mul pe_int (pv 2))))))
        (pss_cons (ps_asg (pe_call (ok__law_transaction T) (hr.mono (by decide)) (by rfl) T.g__law_transaction T.F__law_transaction.kp T.b__law_transaction .nil pass0 (pa_cons (pe_lst pa_nil) (pa_cons (pv 3) pa_nil))) (pgK_tup (K := K) (n := 3) rfl rfl (pgs_cons (pg_name (i := 4) sc_law.nd rfl (Or.inl rfl)) (pgs_cons (pg_name (i := 5) sc_law.nd rfl (Or.inl rfl)) (pgs_cons (pg_name (i := 6) sc_law.nd rfl (Or.inl rfl)) pgs_nil)))))
        (C8.pss_cut (ps_if (pt_cmpR op_eq (pe_op op_mod (pe_ix (ixK_list (K := K) rfl) (pv 3) pe_int (fun _ _ => rfl)) pe_int) pe_int (nomark _)) (pss_one (ps_set (i := 4) sc_law.nd rfl (Or.inl rfl) (pe_op (opK_catA (K := K) rfl) (pv 4) (pe_op (opK_repT (K := K) rfl) (pe_tup (pa_cons (pe_tup (pa_cons pe_str (pa_cons pe_str (pa_cons (pe_ix (ixK_list (K := K) rfl) (pv 3) pe_int (fun _ _ => rfl)) pa_nil)))) pa_nil)) (pe_op op_sub pe_int (pe_callB (callK_len (K := K) rfl) (by rfl) T.n_len PySem.boot_len (pa_cons (pv 4) pa_nil))))))) pss_nil)
        (pss_cons (ps_set (i := 7) sc_law.nd rfl (Or.inl rfl) (pe_tup (pa_cons (pv 4) (pa_cons (pv 5) (pa_cons (pv 6) pa_nil)))))
        (pss_cons (ps_if (pt_cmpR op_notN1 (pe_call (ok_check_transaction T) (hr.mono (by decide)) (by rfl) T.g_check_transaction T.F_check_transaction.kp T.b_check_transaction .nil passL (pa_cons (pv 7) pa_nil)) pe_non (nomark _)) (pss_one (ps_ret pe_bl)) pss_nil)
        (pss_cons (ps_if (pt_cmpR op_notN1 (pe_call (ok_check_transaction T) (hr.mono (by decide)) (by rfl) T.g_check_transaction T.F_check_transaction.kp T.b_check_transaction .nil passL (pa_cons (pe_tup (pa_cons (pv 4) (pa_cons (pe_op (opK_catA (K := K) rfl) (pv 5) (pe_tup (pa_cons (pe_tup (pa_cons pe_str (pa_cons pe_str (pa_cons (pe_tup (pa_cons pe_int (pa_cons pe_str (pa_cons pe_int (pa_cons pe_str (pa_cons pe_int (pa_cons pe_str (pa_cons pe_int (pa_cons pe_str pa_nil))))))))) pa_nil)))) pa_nil))) (pa_cons (pv 6) pa_nil)))) pa_nil)) pe_non (nomark _)) (pss_one (ps_ret pe_bl)) pss_nil)
        (pss_one (ps_for PassesOwn.never rfl (piK_list (K := K) rfl (pe_call (ok__law_wrong T) (hr.mono (by decide)) (by rfl) T.g__law_wrong T.F__law_wrong.kp T.b__law_wrong .nil pass0 (pa_cons (pv 7) (pa_cons (pv 3) pa_nil)))) (pg_name (i := 8) sc_law.nd rfl (Or.inl rfl))
          (pss_one (ps_if (pt_not (ptK_truth (K := K) rfl (pe_call (ok__law_refused T) (hr.mono (by decide)) (by rfl) T.g__law_refused T.F__law_refused.kp T.b__law_refused .nil pass0 (pa_cons (pv 8) pa_nil)) (by intro _; rfl))) (pss_one (ps_ret pe_bl)) pss_nil)))))))))))
      (pss_cons (ps_for PassesOwn.never rfl (piK_list (K := K) rfl (pe_lst (pa_cons pe_non (pa_cons pe_int (pa_cons pe_str (pa_cons (pe_tup pa_nil) (pa_cons (pe_op (opK_catA (K := K) rfl) (pe_tup (pa_cons (pe_tup pa_nil) (pa_cons (pe_tup pa_nil) (pa_cons (pe_tup pa_nil) pa_nil)))) (pe_tup (pa_cons (pe_tup pa_nil) pa_nil))) (pa_cons (pe_tup (pa_cons (pe_tup pa_nil) (pa_cons (pe_tup pa_nil) pa_nil))) (pa_cons (pe_tup (pa_cons pe_non (pa_cons (pe_tup pa_nil) (pa_cons (pe_tup pa_nil) pa_nil)))) pa_nil))))))))) (pg_name (i := 9) sc_law.nd rfl (Or.inl rfl))
        (pss_one (ps_if (pt_not (ptK_truth (K := K) rfl (pe_call (ok__law_refused T) (hr.mono (by decide)) (by rfl) T.g__law_refused T.F__law_refused.kp T.b__law_refused .nil pass0 (pa_cons (pv 9) pa_nil)) (by intro _; rfl))) (pss_one (ps_ret pe_bl)) pss_nil)))
      (pss_one (ps_ret (pe_cmpR op_isN1 (pe_call (ok_check_transaction T) (hr.mono (by decide)) (by rfl) T.g_check_transaction T.F_check_transaction.kp T.b_check_transaction .nil passL (pa_cons (pe_tup (pa_cons (pe_tup pa_nil) (pa_cons (pe_tup pa_nil) (pa_cons (pe_tup pa_nil) pa_nil)))) pa_nil)) pe_non (nomark _))))))), ?_⟩
    refine ⟨_, rfl, a, ns, 670, rfl, hS, hlen, by omega, fun p H1 ds hp s1 hL hD hl => ?_⟩
    dsimp only [L2.gName]
    show tSeq (tFor _ _ _) _ { nx := fun _ H' => Q .non H', rt := Q } (some (.ref a) :: some (.ref p) :: List.replicate 8 none) H1
    refine enter_law (K := K) (E := E) 8 hL q ?_
    clear q hL s1 hp hS
    obtain ⟨d0, e0, b0⟩ := dr_ix hD (i := 0) (by omega) (by omega)
    walk_at "pn"
    walk_at "px"
    refine ws_for ?_
    walk_at "px"
    refine ⟨Unit, fun _ => [.u, .d (.list (ds.map .int)), .u, .u, .u, .u, .u, .u, .u, .u], fun _ => (), fun _ _ => True, nxt () (by walk_at "wk") rfl True.intro, fun i x _ hx _ => ?_, fun _ _ => ?_⟩
    · obtain ⟨hi, rfl⟩ := nums_at hx
      have hi' : i < 6 := by omega
      clear hx hi
      refine wg_name ?_
      walk_at "pn"
      refine ws_mid [.u, .d (.list (ds.map .int)), .d (.int (0 + (i : Int))), .o (cutD (ds.map PyData.int) (some (1 + 110 * (0 + (i : Int)))) (some (111 + 110 * (0 + (i : Int))))), .u, .u, .u, .u, .u, .u] (by walk_at "px"; exact rfl) ?_
      refine ws_freeze 3 rfl ?_
      rw [cut_at (a := 1 + 110 * i) (n := 110) (by omega) (by omega)]
      have hP : Drawn ((ds.drop (1 + 110 * i)).take 110) := drawn_take _ (drawn_drop _ hD)
      have hPl : ((ds.drop (1 + 110 * i)).take 110).length = 110 := by rw [List.length_take, List.length_drop]; omega
      generalize (ds.drop (1 + 110 * i)).take 110 = ps at hP hPl
      obtain ⟨d108, e108, b108⟩ := dr_ix hP (i := 108) (by omega) (by omega)
      obtain ⟨d109, e109, b109⟩ := dr_ix hP (i := 109) (by omega) (by omega)
      walk_at "pn"
      walk_at "px"
      refine ⟨⟨rfl, ps, rfl, hP, by omega, by omega⟩, fun z ⟨c, p, d, ez, g⟩ => ?_⟩
      subst ez
      have glc := g.lc
      have glp := g.lp
      have gld := g.ld
      walk_at "px"
      refine ws_cut (List PyData) (fun c => [.u, .d (.list (ds.map .int)), .u, .d (.list (ps.map .int)), .d (.tuple c), .d (.tuple p), .d (.tuple d), .u, .u, .u]) (fun c => c.length ≤ 12 ∧ c.all isCond = true) ?_ fun c' hc => ?_
      · walk_at "px"
        walk_at "pi"
        · intro h1
          walk_at "px"
          refine opP_repT ⟨by simp, by show 2 ≤ 12 - (c.length : Int); omega, by show 12 - (c.length : Int) ≤ 1000; omega, by simp⟩ ?_
          have hrl : (List.replicate (12 - (c.length : Int)).toNat [PyData.tuple [.str "node", .str "a", .int d108]]).flatten.length = 12 - c.length := by simp
          walk_at "px"
          refine nxt (c ++ (List.replicate (12 - (c.length : Int)).toNat [PyData.tuple [.str "node", .str "a", .int d108]]).flatten) (by walk_at "wk") rfl ⟨by rw [List.length_append, hrl]; omega, ?_⟩
          rw [List.all_append, g.ac, Bool.true_and, List.all_eq_true]
          intro y hy
          obtain ⟨l, h1, h2⟩ := List.mem_flatten.mp hy
          rw [List.eq_of_mem_replicate h1] at h2
          rw [List.mem_singleton.mp h2]
          show (isKy (.str "node") (.str "a") && intIn (.int d108) 0 1000000000000) = true
          rw [in_dec (by omega), Bool.and_true]
          decide +kernel
        · intro h1
          walk_at "px"
          exact nxt c (by walk_at "wk") rfl ⟨by omega, g.ac⟩
      · obtain ⟨lc, ac⟩ := hc
        have oc : ∀ y ∈ c', okx 6 y = true := fun y hy => okx_mono (by decide) (cond_okx (List.all_eq_true.mp ac y hy))
        have op : ∀ y ∈ p, okx 6 y = true := fun y hy => okx_mono (by decide) (put_okx (List.all_eq_true.mp g.ap y hy))
        have od : ∀ y ∈ d, okx 6 y = true := fun y hy => okx_mono (by decide) (del_okx (List.all_eq_true.mp g.ad y hy))
        have t1 : isTrans (.tuple [.tuple c', .tuple p, .tuple d]) = true := isTrans_of lc (by omega) (by omega) ac g.ap g.ad (decide_eq_true g.k)
        have t2 : isTrans (.tuple [.tuple c', .tuple (p ++ [.tuple [.str "task", .str "zzzzzzzzzzz/9", .tuple [.int 1, .str "", .int 1, .str "new", .int 0, .str "", .int 0, .str ""]]]), .tuple d]) = true :=
          one_more lc ac ⟨by simp, g.lp, g.ld, rfl, g.ap, g.ad, g.k, g.n⟩ (by decide +kernel) (fun h => h _ _ rfl (by decide +kernel))
        have o1 : okx 8 (.tuple [.tuple c', .tuple p, .tuple d]) = true := mkT (by omega) (by omega) (by omega) oc op od
        have o2 : okx 8 (.tuple [.tuple c', .tuple (p ++ [.tuple [.str "task", .str "zzzzzzzzzzz/9", .tuple [.int 1, .str "", .int 1, .str "new", .int 0, .str "", .int 0, .str ""]]]), .tuple d]) = true := mkT (by omega) (by simp; omega) (by omega) oc (okAdd op (by decide +kernel)) od
        walk_at "px"
        refine we_callX ?_
        walk_at "px"
        refine ⟨fun C ⟨x, e, h, _⟩ => (by cases e; rw [t1] at h; cases h), fun r hr => ?_⟩
        obtain rfl := (hr _ rfl).2
        walk_at "px"
        refine we_callX ?_
        walk_at "px"
        refine ⟨fun C ⟨x, e, h, _⟩ => (by cases e; rw [t2] at h; cases h), fun r hr => ?_⟩
        obtain rfl := (hr _ rfl).2
        walk_at "px"
        refine ws_for ?_
        walk_at "px"
        refine ⟨⟨⟨c', p, d, rfl, lc, by omega, by omega, oc, fun y hy => ⟨op y hy, List.all_eq_true.mp g.ap y hy⟩, od⟩, ps, rfl, hP, by omega, by omega⟩, fun ys hy => ?_⟩
        obtain ⟨hyl, hyw⟩ := hy
        walk_at "px"
        refine ⟨Unit, fun _ => [.u, .d (.list (ds.map .int)), .u, .u, .u, .u, .u, .u, .u, .u], fun _ => (), fun _ _ => True, nxt () (by walk_at "wk") rfl True.intro, fun j x _ hx _ => ?_, fun _ _ => ?_⟩
        · obtain ⟨h1, h2⟩ := hyw x (List.mem_of_getElem? hx)
          clear hx
          walk_at "px"
          exact nxt () (by walk_at "wk") rfl True.intro
        · exact nxt () (by walk_at "wk") rfl True.intro
    · walk_at "px"
      refine ws_for ?_
      walk_at "px"
      refine ⟨Unit, fun _ => [.u, .u, .u, .u, .u, .u, .u, .u, .u, .u], fun _ => (), fun _ _ => True, nxt () (by walk_at "wk") rfl True.intro, fun j x _ hx _ => ?_, fun _ _ => ?_⟩
      · have hm := List.mem_of_getElem? hx
        clear hx
        obtain ⟨h1, h2⟩ : WrongT x := by
          simp only [List.mem_cons, List.not_mem_nil, or_false] at hm
          rcases hm with rfl | rfl | rfl | rfl | rfl | rfl | rfl <;> exact ⟨by decide +kernel, by decide +kernel⟩
        walk_at "px"
        exact nxt () (by walk_at "wk") rfl True.intro
      · walk_at "px"
        refine we_callX ?_
        walk_at "px"
        refine ⟨⟨_, rfl, by decide +kernel⟩, fun C ⟨x, e, h, _⟩ => (by cases e; revert h; decide +kernel), fun r hr => ?_⟩
        obtain rfl := (hr _ rfl).2
        walk_at "px"
        exact rfl
end
theorem all_mk {l : PySem.W.OpenLaw} {w : World} {K : PySem.W.Frag} {h : Heap} {mg : Str → Option Value} {fa : Addr} (X : K.In h) (G : h.Ns mainGlobals mg) (hfa : mg "law" = some (.ref fa))
    {e_MajordomoError : Addr} {e_CodecError : Addr} {e_StoreError : Addr} {e_BadTransaction : Addr} {e_TooNew : Addr} {f_has_plain_characters : Addr} {od_has_plain_characters an_has_plain_characters : Option Addr} {sl_has_plain_characters : Array (Option Value)} {oc_has_plain_characters kV_has_plain_characters dc_has_plain_characters pm_has_plain_characters cd_has_plain_characters ct_has_plain_characters : Value} {f_is_integer_within : Addr} {od_is_integer_within an_is_integer_within : Option Addr} {sl_is_integer_within : Array (Option Value)} {oc_is_integer_within kV_is_integer_within dc_is_integer_within pm_is_integer_within cd_is_integer_within ct_is_integer_within : Value} {f_is_plain_name : Addr} {od_is_plain_name an_is_plain_name : Option Addr} {sl_is_plain_name : Array (Option Value)} {oc_is_plain_name kV_is_plain_name dc_is_plain_name pm_is_plain_name cd_is_plain_name ct_is_plain_name : Value} {f_is_slot_name : Addr} {od_is_slot_name an_is_slot_name : Option Addr} {sl_is_slot_name : Array (Option Value)} {oc_is_slot_name kV_is_slot_name dc_is_slot_name pm_is_slot_name cd_is_slot_name ct_is_slot_name : Value} {f_is_text : Addr} {od_is_text an_is_text : Option Addr} {sl_is_text : Array (Option Value)} {oc_is_text kV_is_text dc_is_text pm_is_text cd_is_text ct_is_text : Value} {f_is_count : Addr} {od_is_count an_is_count : Option Addr} {sl_is_count : Array (Option Value)} {oc_is_count kV_is_count dc_is_count pm_is_count cd_is_count ct_is_count : Value} {f_is_zone : Addr} {od_is_zone an_is_zone : Option Addr} {sl_is_zone : Array (Option Value)} {oc_is_zone kV_is_zone dc_is_zone pm_is_zone cd_is_zone ct_is_zone : Value} {f_is_key : Addr} {od_is_key an_is_key : Option Addr} {sl_is_key : Array (Option Value)} {oc_is_key kV_is_key dc_is_key pm_is_key cd_is_key ct_is_key : Value} {f__is_beat : Addr} {od__is_beat an__is_beat : Option Addr} {sl__is_beat : Array (Option Value)} {oc__is_beat kV__is_beat dc__is_beat pm__is_beat cd__is_beat ct__is_beat : Value} {f__is_drain : Addr} {od__is_drain an__is_drain : Option Addr} {sl__is_drain : Array (Option Value)} {oc__is_drain kV__is_drain dc__is_drain pm__is_drain cd__is_drain ct__is_drain : Value} {f__is_node : Addr} {od__is_node an__is_node : Option Addr} {sl__is_node : Array (Option Value)} {oc__is_node kV__is_node dc__is_node pm__is_node cd__is_node ct__is_node : Value} {f__is_note : Addr} {od__is_note an__is_note : Option Addr} {sl__is_note : Array (Option Value)} {oc__is_note kV__is_note dc__is_note pm__is_note cd__is_note ct__is_note : Value} {f__is_rollout : Addr} {od__is_rollout an__is_rollout : Option Addr} {sl__is_rollout : Array (Option Value)} {oc__is_rollout kV__is_rollout dc__is_rollout pm__is_rollout cd__is_rollout ct__is_rollout : Value} {f__are_open_numbers : Addr} {od__are_open_numbers an__are_open_numbers : Option Addr} {sl__are_open_numbers : Array (Option Value)} {oc__are_open_numbers kV__are_open_numbers dc__are_open_numbers pm__are_open_numbers cd__are_open_numbers ct__are_open_numbers : Value} {f__is_service : Addr} {od__is_service an__is_service : Option Addr} {sl__is_service : Array (Option Value)} {oc__is_service kV__is_service dc__is_service pm__is_service cd__is_service ct__is_service : Value} {f__is_task : Addr} {od__is_task an__is_task : Option Addr} {sl__is_task : Array (Option Value)} {oc__is_task kV__is_task dc__is_task pm__is_task cd__is_task ct__is_task : Value} {f_is_object : Addr} {od_is_object an_is_object : Option Addr} {sl_is_object : Array (Option Value)} {oc_is_object kV_is_object dc_is_object pm_is_object cd_is_object ct_is_object : Value} {f__is_tuple_of : Addr} {od__is_tuple_of an__is_tuple_of : Option Addr} {sl__is_tuple_of : Array (Option Value)} {oc__is_tuple_of kV__is_tuple_of dc__is_tuple_of pm__is_tuple_of cd__is_tuple_of ct__is_tuple_of : Value} {f__is_condition : Addr} {od__is_condition an__is_condition : Option Addr} {sl__is_condition : Array (Option Value)} {oc__is_condition kV__is_condition dc__is_condition pm__is_condition cd__is_condition ct__is_condition : Value} {f__is_put : Addr} {od__is_put an__is_put : Option Addr} {sl__is_put : Array (Option Value)} {oc__is_put kV__is_put dc__is_put pm__is_put cd__is_put ct__is_put : Value} {f__is_delete : Addr} {od__is_delete an__is_delete : Option Addr} {sl__is_delete : Array (Option Value)} {oc__is_delete kV__is_delete dc__is_delete pm__is_delete cd__is_delete ct__is_delete : Value} {f__are_distinct : Addr} {od__are_distinct an__are_distinct : Option Addr} {sl__are_distinct : Array (Option Value)} {oc__are_distinct kV__are_distinct dc__are_distinct pm__are_distinct cd__are_distinct ct__are_distinct : Value} {f_check_transaction : Addr} {od_check_transaction an_check_transaction : Option Addr} {sl_check_transaction : Array (Option Value)} {oc_check_transaction kV_check_transaction dc_check_transaction pm_check_transaction cd_check_transaction ct_check_transaction : Value} {f__law_draws : Addr} {od__law_draws an__law_draws : Option Addr} {sl__law_draws : Array (Option Value)} {oc__law_draws kV__law_draws dc__law_draws pm__law_draws cd__law_draws ct__law_draws : Value} {f__law_name : Addr} {od__law_name an__law_name : Option Addr} {sl__law_name : Array (Option Value)} {oc__law_name kV__law_name dc__law_name pm__law_name cd__law_name ct__law_name : Value} {f__law_text : Addr} {od__law_text an__law_text : Option Addr} {sl__law_text : Array (Option Value)} {oc__law_text kV__law_text dc__law_text pm__law_text cd__law_text ct__law_text : Value} {f__law_zone : Addr} {od__law_zone an__law_zone : Option Addr} {sl__law_zone : Array (Option Value)} {oc__law_zone kV__law_zone dc__law_zone pm__law_zone cd__law_zone ct__law_zone : Value} {f__law_open : Addr} {od__law_open an__law_open : Option Addr} {sl__law_open : Array (Option Value)} {oc__law_open kV__law_open dc__law_open pm__law_open cd__law_open ct__law_open : Value} {f__law_key : Addr} {od__law_key an__law_key : Option Addr} {sl__law_key : Array (Option Value)} {oc__law_key kV__law_key dc__law_key pm__law_key cd__law_key ct__law_key : Value} {f__law_worth : Addr} {od__law_worth an__law_worth : Option Addr} {sl__law_worth : Array (Option Value)} {oc__law_worth kV__law_worth dc__law_worth pm__law_worth cd__law_worth ct__law_worth : Value} {f__law_find : Addr} {od__law_find an__law_find : Option Addr} {sl__law_find : Array (Option Value)} {oc__law_find kV__law_find dc__law_find pm__law_find cd__law_find ct__law_find : Value} {f__law_transaction : Addr} {od__law_transaction an__law_transaction : Option Addr} {sl__law_transaction : Array (Option Value)} {oc__law_transaction kV__law_transaction dc__law_transaction pm__law_transaction cd__law_transaction ct__law_transaction : Value} {f__law_refused : Addr} {od__law_refused an__law_refused : Option Addr} {sl__law_refused : Array (Option Value)} {oc__law_refused kV__law_refused dc__law_refused pm__law_refused cd__law_refused ct__law_refused : Value} {f__law_wrong : Addr} {od__law_wrong an__law_wrong : Option Addr} {sl__law_wrong : Array (Option Value)} {oc__law_wrong kV__law_wrong dc__law_wrong pm__law_wrong cd__law_wrong ct__law_wrong : Value} {f_law : Addr} {od_law an_law : Option Addr} {sl_law : Array (Option Value)} {oc_law kV_law dc_law pm_law cd_law ct_law : Value} {t_SPACE : Tok} {t_PERCENT : Tok} {t_TILDE : Tok} {t_DIGITS : Tok} {ca_KINDS : Addr} {cd0_KINDS : Option Addr} {cn_KINDS : Nat} {cs_KINDS : Array (Option Value)} {cv_KINDS : List Value} {ca_STATES : Addr} {cd0_STATES : Option Addr} {cn_STATES : Nat} {cs_STATES : Array (Option Value)} {cv_STATES : List Value} {t_NAME_CHARACTERS : Tok} {t_MOST_NAME : Tok} {t_MOST_TEXT : Tok} {t_MOST_COUNT : Tok} {t_MOST_NUMBER : Tok} {t_MOST_MEMBERS : Tok} {ca_VALUE_FORMS : Addr} {ce_VALUE_FORMS : Array DictEntry} {cn_VALUE_FORMS : Nat}
    (g_MajordomoError : PySem.W.nsIn K mainGlobals "MajordomoError" = some (some (.ref e_MajordomoError)))
    (x_MajordomoError : PySem.W.excIn K e_MajordomoError [.type "ValueError", .type "Exception", .type "BaseException", .type "object"] "ValueError.__new__" = true)
    (k_MajordomoError : PySem.W.keepIn K (.ref e_MajordomoError) = true)
    (s_MajordomoError : PySem.W.subIn K (.ref e_MajordomoError) (.type "BaseException") = some true)
    (t_MajordomoError : PySem.W.typeIn K (.ref e_MajordomoError) = some (.type "type"))
    (g_CodecError : PySem.W.nsIn K mainGlobals "CodecError" = some (some (.ref e_CodecError)))
    (x_CodecError : PySem.W.excIn K e_CodecError [.type "ValueError", .type "Exception", .type "BaseException", .type "object"] "ValueError.__new__" = true)
    (k_CodecError : PySem.W.keepIn K (.ref e_CodecError) = true)
    (s_CodecError : PySem.W.subIn K (.ref e_CodecError) (.type "BaseException") = some true)
    (t_CodecError : PySem.W.typeIn K (.ref e_CodecError) = some (.type "type"))
    (g_StoreError : PySem.W.nsIn K mainGlobals "StoreError" = some (some (.ref e_StoreError)))
    (x_StoreError : PySem.W.excIn K e_StoreError [.type "ValueError", .type "Exception", .type "BaseException", .type "object"] "ValueError.__new__" = true)
    (k_StoreError : PySem.W.keepIn K (.ref e_StoreError) = true)
    (s_StoreError : PySem.W.subIn K (.ref e_StoreError) (.type "BaseException") = some true)
    (t_StoreError : PySem.W.typeIn K (.ref e_StoreError) = some (.type "type"))
    (hx_StoreError : PySem.W.hasDictIn K e_StoreError = true)
    (g_BadTransaction : PySem.W.nsIn K mainGlobals "BadTransaction" = some (some (.ref e_BadTransaction)))
    (x_BadTransaction : PySem.W.excIn K e_BadTransaction [.type "ValueError", .type "Exception", .type "BaseException", .type "object"] "ValueError.__new__" = true)
    (k_BadTransaction : PySem.W.keepIn K (.ref e_BadTransaction) = true)
    (s_BadTransaction : PySem.W.subIn K (.ref e_BadTransaction) (.type "BaseException") = some true)
    (t_BadTransaction : PySem.W.typeIn K (.ref e_BadTransaction) = some (.type "type"))
    (hx_BadTransaction : PySem.W.hasDictIn K e_BadTransaction = true)
    (su_BadTransaction : PySem.W.subIn K (.ref e_BadTransaction) (.ref e_BadTransaction) = some true)
    (g_TooNew : PySem.W.nsIn K mainGlobals "TooNew" = some (some (.ref e_TooNew)))
    (x_TooNew : PySem.W.excIn K e_TooNew [.type "ValueError", .type "Exception", .type "BaseException", .type "object"] "ValueError.__new__" = true)
    (k_TooNew : PySem.W.keepIn K (.ref e_TooNew) = true)
    (s_TooNew : PySem.W.subIn K (.ref e_TooNew) (.type "BaseException") = some true)
    (t_TooNew : PySem.W.typeIn K (.ref e_TooNew) = some (.type "type"))
    (sb_BadTransaction_StoreError : PySem.W.subIn K (.ref e_BadTransaction) (.ref e_StoreError) = some true)
    (Xhg_BadTransaction : PySem.W.findIn K (.ref e_BadTransaction) "__getattribute__" = some (some (.builtin "BaseException.__getattribute__")))
    (Xhk_BadTransaction : PySem.W.findIn K (.ref e_BadTransaction) "__getattr__" = some none)
    (Xhs_BadTransaction : PySem.W.subIn K (.ref e_BadTransaction) (.type "BaseException") = some true)
    (Xhd_BadTransaction : PySem.W.hasDictIn K e_BadTransaction = true)
    (Xha_BadTransaction : PySem.W.findIn K (.ref e_BadTransaction) "__class__" = some (some (.builtin "object.__class__")))
    (Xhn_BadTransaction : PySem.W.specialIn K (.builtin "object.__class__") "__get__" = some (some (.builtin "getset_descriptor.__get__")))
    (Xht_BadTransaction : PySem.W.takesIn K (.builtin "object.__class__") = some true)
    (Xhm_BadTransaction : PySem.W.mroIn K e_BadTransaction (.type "object") = some true)
    (y_BadTransaction_BadTransaction : PySem.W.kitOne K (.ref e_BadTransaction) (.ref e_BadTransaction) = some true)
    (y_BadTransaction_TooNew : PySem.W.kitOne K (.ref e_BadTransaction) (.ref e_TooNew) = some false)
    (y_BadTransaction_CodecError : PySem.W.kitOne K (.ref e_BadTransaction) (.ref e_CodecError) = some false)
    (g_has_plain_characters : PySem.W.nsIn K mainGlobals "has_plain_characters" = some (some (.ref f_has_plain_characters)))
    (l_has_plain_characters : K.lookup f_has_plain_characters = some ⟨oc_has_plain_characters, od_has_plain_characters, .func (PySem.W.fnOf "has_plain_characters" "has_plain_characters" (defArgs s_has_plain_characters) (defBody s_has_plain_characters) (defScope s_has_plain_characters) .none kV_has_plain_characters dc_has_plain_characters pm_has_plain_characters an_has_plain_characters cd_has_plain_characters ct_has_plain_characters), sl_has_plain_characters⟩)
    (c_has_plain_characters : PySem.W.codeIn K cd_has_plain_characters "has_plain_characters" = true)
    (k_has_plain_characters : PySem.W.keepIn K (.ref f_has_plain_characters) = true)
    (g_is_integer_within : PySem.W.nsIn K mainGlobals "is_integer_within" = some (some (.ref f_is_integer_within)))
    (l_is_integer_within : K.lookup f_is_integer_within = some ⟨oc_is_integer_within, od_is_integer_within, .func (PySem.W.fnOf "is_integer_within" "is_integer_within" (defArgs s_is_integer_within) (defBody s_is_integer_within) (defScope s_is_integer_within) .none kV_is_integer_within dc_is_integer_within pm_is_integer_within an_is_integer_within cd_is_integer_within ct_is_integer_within), sl_is_integer_within⟩)
    (c_is_integer_within : PySem.W.codeIn K cd_is_integer_within "is_integer_within" = true)
    (k_is_integer_within : PySem.W.keepIn K (.ref f_is_integer_within) = true)
    (g_is_plain_name : PySem.W.nsIn K mainGlobals "is_plain_name" = some (some (.ref f_is_plain_name)))
    (l_is_plain_name : K.lookup f_is_plain_name = some ⟨oc_is_plain_name, od_is_plain_name, .func (PySem.W.fnOf "is_plain_name" "is_plain_name" (defArgs s_is_plain_name) (defBody s_is_plain_name) (defScope s_is_plain_name) .none kV_is_plain_name dc_is_plain_name pm_is_plain_name an_is_plain_name cd_is_plain_name ct_is_plain_name), sl_is_plain_name⟩)
    (c_is_plain_name : PySem.W.codeIn K cd_is_plain_name "is_plain_name" = true)
    (k_is_plain_name : PySem.W.keepIn K (.ref f_is_plain_name) = true)
    (g_is_slot_name : PySem.W.nsIn K mainGlobals "is_slot_name" = some (some (.ref f_is_slot_name)))
    (l_is_slot_name : K.lookup f_is_slot_name = some ⟨oc_is_slot_name, od_is_slot_name, .func (PySem.W.fnOf "is_slot_name" "is_slot_name" (defArgs s_is_slot_name) (defBody s_is_slot_name) (defScope s_is_slot_name) .none kV_is_slot_name dc_is_slot_name pm_is_slot_name an_is_slot_name cd_is_slot_name ct_is_slot_name), sl_is_slot_name⟩)
    (c_is_slot_name : PySem.W.codeIn K cd_is_slot_name "is_slot_name" = true)
    (k_is_slot_name : PySem.W.keepIn K (.ref f_is_slot_name) = true)
    (g_is_text : PySem.W.nsIn K mainGlobals "is_text" = some (some (.ref f_is_text)))
    (l_is_text : K.lookup f_is_text = some ⟨oc_is_text, od_is_text, .func (PySem.W.fnOf "is_text" "is_text" (defArgs s_is_text) (defBody s_is_text) (defScope s_is_text) .none kV_is_text dc_is_text pm_is_text an_is_text cd_is_text ct_is_text), sl_is_text⟩)
    (c_is_text : PySem.W.codeIn K cd_is_text "is_text" = true)
    (k_is_text : PySem.W.keepIn K (.ref f_is_text) = true)
    (g_is_count : PySem.W.nsIn K mainGlobals "is_count" = some (some (.ref f_is_count)))
    (l_is_count : K.lookup f_is_count = some ⟨oc_is_count, od_is_count, .func (PySem.W.fnOf "is_count" "is_count" (defArgs s_is_count) (defBody s_is_count) (defScope s_is_count) .none kV_is_count dc_is_count pm_is_count an_is_count cd_is_count ct_is_count), sl_is_count⟩)
    (c_is_count : PySem.W.codeIn K cd_is_count "is_count" = true)
    (k_is_count : PySem.W.keepIn K (.ref f_is_count) = true)
    (g_is_zone : PySem.W.nsIn K mainGlobals "is_zone" = some (some (.ref f_is_zone)))
    (l_is_zone : K.lookup f_is_zone = some ⟨oc_is_zone, od_is_zone, .func (PySem.W.fnOf "is_zone" "is_zone" (defArgs s_is_zone) (defBody s_is_zone) (defScope s_is_zone) .none kV_is_zone dc_is_zone pm_is_zone an_is_zone cd_is_zone ct_is_zone), sl_is_zone⟩)
    (c_is_zone : PySem.W.codeIn K cd_is_zone "is_zone" = true)
    (k_is_zone : PySem.W.keepIn K (.ref f_is_zone) = true)
    (g_is_key : PySem.W.nsIn K mainGlobals "is_key" = some (some (.ref f_is_key)))
    (l_is_key : K.lookup f_is_key = some ⟨oc_is_key, od_is_key, .func (PySem.W.fnOf "is_key" "is_key" (defArgs s_is_key) (defBody s_is_key) (defScope s_is_key) .none kV_is_key dc_is_key pm_is_key an_is_key cd_is_key ct_is_key), sl_is_key⟩)
    (c_is_key : PySem.W.codeIn K cd_is_key "is_key" = true)
    (k_is_key : PySem.W.keepIn K (.ref f_is_key) = true)
    (g__is_beat : PySem.W.nsIn K mainGlobals "_is_beat" = some (some (.ref f__is_beat)))
    (l__is_beat : K.lookup f__is_beat = some ⟨oc__is_beat, od__is_beat, .func (PySem.W.fnOf "_is_beat" "_is_beat" (defArgs s__is_beat) (defBody s__is_beat) (defScope s__is_beat) .none kV__is_beat dc__is_beat pm__is_beat an__is_beat cd__is_beat ct__is_beat), sl__is_beat⟩)
    (c__is_beat : PySem.W.codeIn K cd__is_beat "_is_beat" = true)
    (k__is_beat : PySem.W.keepIn K (.ref f__is_beat) = true)
    (g__is_drain : PySem.W.nsIn K mainGlobals "_is_drain" = some (some (.ref f__is_drain)))
    (l__is_drain : K.lookup f__is_drain = some ⟨oc__is_drain, od__is_drain, .func (PySem.W.fnOf "_is_drain" "_is_drain" (defArgs s__is_drain) (defBody s__is_drain) (defScope s__is_drain) .none kV__is_drain dc__is_drain pm__is_drain an__is_drain cd__is_drain ct__is_drain), sl__is_drain⟩)
    (c__is_drain : PySem.W.codeIn K cd__is_drain "_is_drain" = true)
    (k__is_drain : PySem.W.keepIn K (.ref f__is_drain) = true)
    (g__is_node : PySem.W.nsIn K mainGlobals "_is_node" = some (some (.ref f__is_node)))
    (l__is_node : K.lookup f__is_node = some ⟨oc__is_node, od__is_node, .func (PySem.W.fnOf "_is_node" "_is_node" (defArgs s__is_node) (defBody s__is_node) (defScope s__is_node) .none kV__is_node dc__is_node pm__is_node an__is_node cd__is_node ct__is_node), sl__is_node⟩)
    (c__is_node : PySem.W.codeIn K cd__is_node "_is_node" = true)
    (k__is_node : PySem.W.keepIn K (.ref f__is_node) = true)
    (g__is_note : PySem.W.nsIn K mainGlobals "_is_note" = some (some (.ref f__is_note)))
    (l__is_note : K.lookup f__is_note = some ⟨oc__is_note, od__is_note, .func (PySem.W.fnOf "_is_note" "_is_note" (defArgs s__is_note) (defBody s__is_note) (defScope s__is_note) .none kV__is_note dc__is_note pm__is_note an__is_note cd__is_note ct__is_note), sl__is_note⟩)
    (c__is_note : PySem.W.codeIn K cd__is_note "_is_note" = true)
    (k__is_note : PySem.W.keepIn K (.ref f__is_note) = true)
    (g__is_rollout : PySem.W.nsIn K mainGlobals "_is_rollout" = some (some (.ref f__is_rollout)))
    (l__is_rollout : K.lookup f__is_rollout = some ⟨oc__is_rollout, od__is_rollout, .func (PySem.W.fnOf "_is_rollout" "_is_rollout" (defArgs s__is_rollout) (defBody s__is_rollout) (defScope s__is_rollout) .none kV__is_rollout dc__is_rollout pm__is_rollout an__is_rollout cd__is_rollout ct__is_rollout), sl__is_rollout⟩)
    (c__is_rollout : PySem.W.codeIn K cd__is_rollout "_is_rollout" = true)
    (k__is_rollout : PySem.W.keepIn K (.ref f__is_rollout) = true)
    (g__are_open_numbers : PySem.W.nsIn K mainGlobals "_are_open_numbers" = some (some (.ref f__are_open_numbers)))
    (l__are_open_numbers : K.lookup f__are_open_numbers = some ⟨oc__are_open_numbers, od__are_open_numbers, .func (PySem.W.fnOf "_are_open_numbers" "_are_open_numbers" (defArgs s__are_open_numbers) (defBody s__are_open_numbers) (defScope s__are_open_numbers) .none kV__are_open_numbers dc__are_open_numbers pm__are_open_numbers an__are_open_numbers cd__are_open_numbers ct__are_open_numbers), sl__are_open_numbers⟩)
    (c__are_open_numbers : PySem.W.codeIn K cd__are_open_numbers "_are_open_numbers" = true)
    (k__are_open_numbers : PySem.W.keepIn K (.ref f__are_open_numbers) = true)
    (g__is_service : PySem.W.nsIn K mainGlobals "_is_service" = some (some (.ref f__is_service)))
    (l__is_service : K.lookup f__is_service = some ⟨oc__is_service, od__is_service, .func (PySem.W.fnOf "_is_service" "_is_service" (defArgs s__is_service) (defBody s__is_service) (defScope s__is_service) .none kV__is_service dc__is_service pm__is_service an__is_service cd__is_service ct__is_service), sl__is_service⟩)
    (c__is_service : PySem.W.codeIn K cd__is_service "_is_service" = true)
    (k__is_service : PySem.W.keepIn K (.ref f__is_service) = true)
    (g__is_task : PySem.W.nsIn K mainGlobals "_is_task" = some (some (.ref f__is_task)))
    (l__is_task : K.lookup f__is_task = some ⟨oc__is_task, od__is_task, .func (PySem.W.fnOf "_is_task" "_is_task" (defArgs s__is_task) (defBody s__is_task) (defScope s__is_task) .none kV__is_task dc__is_task pm__is_task an__is_task cd__is_task ct__is_task), sl__is_task⟩)
    (c__is_task : PySem.W.codeIn K cd__is_task "_is_task" = true)
    (k__is_task : PySem.W.keepIn K (.ref f__is_task) = true)
    (g_is_object : PySem.W.nsIn K mainGlobals "is_object" = some (some (.ref f_is_object)))
    (l_is_object : K.lookup f_is_object = some ⟨oc_is_object, od_is_object, .func (PySem.W.fnOf "is_object" "is_object" (defArgs s_is_object) (defBody s_is_object) (defScope s_is_object) .none kV_is_object dc_is_object pm_is_object an_is_object cd_is_object ct_is_object), sl_is_object⟩)
    (c_is_object : PySem.W.codeIn K cd_is_object "is_object" = true)
    (k_is_object : PySem.W.keepIn K (.ref f_is_object) = true)
    (g__is_tuple_of : PySem.W.nsIn K mainGlobals "_is_tuple_of" = some (some (.ref f__is_tuple_of)))
    (l__is_tuple_of : K.lookup f__is_tuple_of = some ⟨oc__is_tuple_of, od__is_tuple_of, .func (PySem.W.fnOf "_is_tuple_of" "_is_tuple_of" (defArgs s__is_tuple_of) (defBody s__is_tuple_of) (defScope s__is_tuple_of) .none kV__is_tuple_of dc__is_tuple_of pm__is_tuple_of an__is_tuple_of cd__is_tuple_of ct__is_tuple_of), sl__is_tuple_of⟩)
    (c__is_tuple_of : PySem.W.codeIn K cd__is_tuple_of "_is_tuple_of" = true)
    (k__is_tuple_of : PySem.W.keepIn K (.ref f__is_tuple_of) = true)
    (g__is_condition : PySem.W.nsIn K mainGlobals "_is_condition" = some (some (.ref f__is_condition)))
    (l__is_condition : K.lookup f__is_condition = some ⟨oc__is_condition, od__is_condition, .func (PySem.W.fnOf "_is_condition" "_is_condition" (defArgs s__is_condition) (defBody s__is_condition) (defScope s__is_condition) .none kV__is_condition dc__is_condition pm__is_condition an__is_condition cd__is_condition ct__is_condition), sl__is_condition⟩)
    (c__is_condition : PySem.W.codeIn K cd__is_condition "_is_condition" = true)
    (k__is_condition : PySem.W.keepIn K (.ref f__is_condition) = true)
    (g__is_put : PySem.W.nsIn K mainGlobals "_is_put" = some (some (.ref f__is_put)))
    (l__is_put : K.lookup f__is_put = some ⟨oc__is_put, od__is_put, .func (PySem.W.fnOf "_is_put" "_is_put" (defArgs s__is_put) (defBody s__is_put) (defScope s__is_put) .none kV__is_put dc__is_put pm__is_put an__is_put cd__is_put ct__is_put), sl__is_put⟩)
    (c__is_put : PySem.W.codeIn K cd__is_put "_is_put" = true)
    (k__is_put : PySem.W.keepIn K (.ref f__is_put) = true)
    (g__is_delete : PySem.W.nsIn K mainGlobals "_is_delete" = some (some (.ref f__is_delete)))
    (l__is_delete : K.lookup f__is_delete = some ⟨oc__is_delete, od__is_delete, .func (PySem.W.fnOf "_is_delete" "_is_delete" (defArgs s__is_delete) (defBody s__is_delete) (defScope s__is_delete) .none kV__is_delete dc__is_delete pm__is_delete an__is_delete cd__is_delete ct__is_delete), sl__is_delete⟩)
    (c__is_delete : PySem.W.codeIn K cd__is_delete "_is_delete" = true)
    (k__is_delete : PySem.W.keepIn K (.ref f__is_delete) = true)
    (g__are_distinct : PySem.W.nsIn K mainGlobals "_are_distinct" = some (some (.ref f__are_distinct)))
    (l__are_distinct : K.lookup f__are_distinct = some ⟨oc__are_distinct, od__are_distinct, .func (PySem.W.fnOf "_are_distinct" "_are_distinct" (defArgs s__are_distinct) (defBody s__are_distinct) (defScope s__are_distinct) .none kV__are_distinct dc__are_distinct pm__are_distinct an__are_distinct cd__are_distinct ct__are_distinct), sl__are_distinct⟩)
    (c__are_distinct : PySem.W.codeIn K cd__are_distinct "_are_distinct" = true)
    (k__are_distinct : PySem.W.keepIn K (.ref f__are_distinct) = true)
    (g_check_transaction : PySem.W.nsIn K mainGlobals "check_transaction" = some (some (.ref f_check_transaction)))
    (l_check_transaction : K.lookup f_check_transaction = some ⟨oc_check_transaction, od_check_transaction, .func (PySem.W.fnOf "check_transaction" "check_transaction" (defArgs s_check_transaction) (defBody s_check_transaction) (defScope s_check_transaction) .none kV_check_transaction dc_check_transaction pm_check_transaction an_check_transaction cd_check_transaction ct_check_transaction), sl_check_transaction⟩)
    (c_check_transaction : PySem.W.codeIn K cd_check_transaction "check_transaction" = true)
    (k_check_transaction : PySem.W.keepIn K (.ref f_check_transaction) = true)
    (g__law_draws : PySem.W.nsIn K mainGlobals "_law_draws" = some (some (.ref f__law_draws)))
    (l__law_draws : K.lookup f__law_draws = some ⟨oc__law_draws, od__law_draws, .func (PySem.W.fnOf "_law_draws" "_law_draws" (defArgs s__law_draws) (defBody s__law_draws) (defScope s__law_draws) .none kV__law_draws dc__law_draws pm__law_draws an__law_draws cd__law_draws ct__law_draws), sl__law_draws⟩)
    (c__law_draws : PySem.W.codeIn K cd__law_draws "_law_draws" = true)
    (k__law_draws : PySem.W.keepIn K (.ref f__law_draws) = true)
    (g__law_name : PySem.W.nsIn K mainGlobals "_law_name" = some (some (.ref f__law_name)))
    (l__law_name : K.lookup f__law_name = some ⟨oc__law_name, od__law_name, .func (PySem.W.fnOf "_law_name" "_law_name" (defArgs s__law_name) (defBody s__law_name) (defScope s__law_name) .none kV__law_name dc__law_name pm__law_name an__law_name cd__law_name ct__law_name), sl__law_name⟩)
    (c__law_name : PySem.W.codeIn K cd__law_name "_law_name" = true)
    (k__law_name : PySem.W.keepIn K (.ref f__law_name) = true)
    (g__law_text : PySem.W.nsIn K mainGlobals "_law_text" = some (some (.ref f__law_text)))
    (l__law_text : K.lookup f__law_text = some ⟨oc__law_text, od__law_text, .func (PySem.W.fnOf "_law_text" "_law_text" (defArgs s__law_text) (defBody s__law_text) (defScope s__law_text) .none kV__law_text dc__law_text pm__law_text an__law_text cd__law_text ct__law_text), sl__law_text⟩)
    (c__law_text : PySem.W.codeIn K cd__law_text "_law_text" = true)
    (k__law_text : PySem.W.keepIn K (.ref f__law_text) = true)
    (g__law_zone : PySem.W.nsIn K mainGlobals "_law_zone" = some (some (.ref f__law_zone)))
    (l__law_zone : K.lookup f__law_zone = some ⟨oc__law_zone, od__law_zone, .func (PySem.W.fnOf "_law_zone" "_law_zone" (defArgs s__law_zone) (defBody s__law_zone) (defScope s__law_zone) .none kV__law_zone dc__law_zone pm__law_zone an__law_zone cd__law_zone ct__law_zone), sl__law_zone⟩)
    (c__law_zone : PySem.W.codeIn K cd__law_zone "_law_zone" = true)
    (k__law_zone : PySem.W.keepIn K (.ref f__law_zone) = true)
    (g__law_open : PySem.W.nsIn K mainGlobals "_law_open" = some (some (.ref f__law_open)))
    (l__law_open : K.lookup f__law_open = some ⟨oc__law_open, od__law_open, .func (PySem.W.fnOf "_law_open" "_law_open" (defArgs s__law_open) (defBody s__law_open) (defScope s__law_open) .none kV__law_open dc__law_open pm__law_open an__law_open cd__law_open ct__law_open), sl__law_open⟩)
    (c__law_open : PySem.W.codeIn K cd__law_open "_law_open" = true)
    (k__law_open : PySem.W.keepIn K (.ref f__law_open) = true)
    (g__law_key : PySem.W.nsIn K mainGlobals "_law_key" = some (some (.ref f__law_key)))
    (l__law_key : K.lookup f__law_key = some ⟨oc__law_key, od__law_key, .func (PySem.W.fnOf "_law_key" "_law_key" (defArgs s__law_key) (defBody s__law_key) (defScope s__law_key) .none kV__law_key dc__law_key pm__law_key an__law_key cd__law_key ct__law_key), sl__law_key⟩)
    (c__law_key : PySem.W.codeIn K cd__law_key "_law_key" = true)
    (k__law_key : PySem.W.keepIn K (.ref f__law_key) = true)
    (g__law_worth : PySem.W.nsIn K mainGlobals "_law_worth" = some (some (.ref f__law_worth)))
    (l__law_worth : K.lookup f__law_worth = some ⟨oc__law_worth, od__law_worth, .func (PySem.W.fnOf "_law_worth" "_law_worth" (defArgs s__law_worth) (defBody s__law_worth) (defScope s__law_worth) .none kV__law_worth dc__law_worth pm__law_worth an__law_worth cd__law_worth ct__law_worth), sl__law_worth⟩)
    (c__law_worth : PySem.W.codeIn K cd__law_worth "_law_worth" = true)
    (k__law_worth : PySem.W.keepIn K (.ref f__law_worth) = true)
    (g__law_find : PySem.W.nsIn K mainGlobals "_law_find" = some (some (.ref f__law_find)))
    (l__law_find : K.lookup f__law_find = some ⟨oc__law_find, od__law_find, .func (PySem.W.fnOf "_law_find" "_law_find" (defArgs s__law_find) (defBody s__law_find) (defScope s__law_find) .none kV__law_find dc__law_find pm__law_find an__law_find cd__law_find ct__law_find), sl__law_find⟩)
    (c__law_find : PySem.W.codeIn K cd__law_find "_law_find" = true)
    (k__law_find : PySem.W.keepIn K (.ref f__law_find) = true)
    (g__law_transaction : PySem.W.nsIn K mainGlobals "_law_transaction" = some (some (.ref f__law_transaction)))
    (l__law_transaction : K.lookup f__law_transaction = some ⟨oc__law_transaction, od__law_transaction, .func (PySem.W.fnOf "_law_transaction" "_law_transaction" (defArgs s__law_transaction) (defBody s__law_transaction) (defScope s__law_transaction) .none kV__law_transaction dc__law_transaction pm__law_transaction an__law_transaction cd__law_transaction ct__law_transaction), sl__law_transaction⟩)
    (c__law_transaction : PySem.W.codeIn K cd__law_transaction "_law_transaction" = true)
    (k__law_transaction : PySem.W.keepIn K (.ref f__law_transaction) = true)
    (g__law_refused : PySem.W.nsIn K mainGlobals "_law_refused" = some (some (.ref f__law_refused)))
    (l__law_refused : K.lookup f__law_refused = some ⟨oc__law_refused, od__law_refused, .func (PySem.W.fnOf "_law_refused" "_law_refused" (defArgs s__law_refused) (defBody s__law_refused) (defScope s__law_refused) .none kV__law_refused dc__law_refused pm__law_refused an__law_refused cd__law_refused ct__law_refused), sl__law_refused⟩)
    (c__law_refused : PySem.W.codeIn K cd__law_refused "_law_refused" = true)
    (k__law_refused : PySem.W.keepIn K (.ref f__law_refused) = true)
    (g__law_wrong : PySem.W.nsIn K mainGlobals "_law_wrong" = some (some (.ref f__law_wrong)))
    (l__law_wrong : K.lookup f__law_wrong = some ⟨oc__law_wrong, od__law_wrong, .func (PySem.W.fnOf "_law_wrong" "_law_wrong" (defArgs s__law_wrong) (defBody s__law_wrong) (defScope s__law_wrong) .none kV__law_wrong dc__law_wrong pm__law_wrong an__law_wrong cd__law_wrong ct__law_wrong), sl__law_wrong⟩)
    (c__law_wrong : PySem.W.codeIn K cd__law_wrong "_law_wrong" = true)
    (k__law_wrong : PySem.W.keepIn K (.ref f__law_wrong) = true)
    (g_law : PySem.W.nsIn K mainGlobals "law" = some (some (.ref f_law)))
    (l_law : K.lookup f_law = some ⟨oc_law, od_law, .func (PySem.W.fnOf "law" "law" (defArgs s_law) (defBody s_law) (defScope s_law) .none kV_law dc_law pm_law an_law cd_law ct_law), sl_law⟩)
    (c_law : PySem.W.codeIn K cd_law "law" = true)
    (k_law : PySem.W.keepIn K (.ref f_law) = true)
    (c_SPACE : PySem.W.nsIn K mainGlobals "SPACE" = some (some (.int 32 t_SPACE)))
    (c_PERCENT : PySem.W.nsIn K mainGlobals "PERCENT" = some (some (.int 37 t_PERCENT)))
    (c_TILDE : PySem.W.nsIn K mainGlobals "TILDE" = some (some (.int 126 t_TILDE)))
    (c_DIGITS : PySem.W.nsIn K mainGlobals "DIGITS" = some (some (.str "0123456789" t_DIGITS)))
    (c_KINDS : PySem.W.nsIn K mainGlobals "KINDS" = some (some (.ref ca_KINDS)))
    (q_KINDS : K.lookup ca_KINDS = some ⟨.type "tuple", cd0_KINDS, .seq cv_KINDS.toArray cn_KINDS, cs_KINDS⟩)
    (v_KINDS : Vals [(.str "beat"), (.str "drain"), (.str "node"), (.str "note"), (.str "rollout"), (.str "service"), (.str "task")] cv_KINDS)
    (c_STATES : PySem.W.nsIn K mainGlobals "STATES" = some (some (.ref ca_STATES)))
    (q_STATES : K.lookup ca_STATES = some ⟨.type "tuple", cd0_STATES, .seq cv_STATES.toArray cn_STATES, cs_STATES⟩)
    (v_STATES : Vals [(.str "new"), (.str "bound"), (.str "running"), (.str "ended")] cv_STATES)
    (c_NAME_CHARACTERS : PySem.W.nsIn K mainGlobals "NAME_CHARACTERS" = some (some (.str "abcdefghijklmnopqrstuvwxyz0123456789" t_NAME_CHARACTERS)))
    (c_MOST_NAME : PySem.W.nsIn K mainGlobals "MOST_NAME" = some (some (.int 12 t_MOST_NAME)))
    (c_MOST_TEXT : PySem.W.nsIn K mainGlobals "MOST_TEXT" = some (some (.int 40 t_MOST_TEXT)))
    (c_MOST_COUNT : PySem.W.nsIn K mainGlobals "MOST_COUNT" = some (some (.int 1000000000000 t_MOST_COUNT)))
    (c_MOST_NUMBER : PySem.W.nsIn K mainGlobals "MOST_NUMBER" = some (some (.int 9 t_MOST_NUMBER)))
    (c_MOST_MEMBERS : PySem.W.nsIn K mainGlobals "MOST_MEMBERS" = some (some (.int 12 t_MOST_MEMBERS)))
    (c_VALUE_FORMS : PySem.W.nsIn K mainGlobals "VALUE_FORMS" = some (some (.ref ca_VALUE_FORMS)))
    (q_VALUE_FORMS : K.lookup ca_VALUE_FORMS = some ⟨.type "dict", none, .dict ce_VALUE_FORMS cn_VALUE_FORMS, #[]⟩)
    (w_VALUE_FORMS : PySem.W.KeysLit w.params ce_VALUE_FORMS.toList)
    (z_VALUE_FORMS : (ca_VALUE_FORMS == sysModules) = false)
    (j_VALUE_FORMS_beat : PySem.W.nsIn K ca_VALUE_FORMS "beat" = some (some (.ref f__is_beat)))
    (j_VALUE_FORMS_drain : PySem.W.nsIn K ca_VALUE_FORMS "drain" = some (some (.ref f__is_drain)))
    (j_VALUE_FORMS_node : PySem.W.nsIn K ca_VALUE_FORMS "node" = some (some (.ref f__is_node)))
    (j_VALUE_FORMS_note : PySem.W.nsIn K ca_VALUE_FORMS "note" = some (some (.ref f__is_note)))
    (j_VALUE_FORMS_rollout : PySem.W.nsIn K ca_VALUE_FORMS "rollout" = some (some (.ref f__is_rollout)))
    (j_VALUE_FORMS_service : PySem.W.nsIn K ca_VALUE_FORMS "service" = some (some (.ref f__is_service)))
    (j_VALUE_FORMS_task : PySem.W.nsIn K ca_VALUE_FORMS "task" = some (some (.ref f__is_task)))
    (n_isinstance : PySem.W.nsIn K mainGlobals "isinstance" = some none)
    (n_int : PySem.W.nsIn K mainGlobals "int" = some none)
    (n_bool : PySem.W.nsIn K mainGlobals "bool" = some none)
    (n_len : PySem.W.nsIn K mainGlobals "len" = some none)
    (n_str : PySem.W.nsIn K mainGlobals "str" = some none)
    (n_all : PySem.W.nsIn K mainGlobals "all" = some none)
    (n_ord : PySem.W.nsIn K mainGlobals "ord" = some none)
    (n_tuple : PySem.W.nsIn K mainGlobals "tuple" = some none)
    (n_range : PySem.W.nsIn K mainGlobals "range" = some none)
    (n_abs : PySem.W.nsIn K mainGlobals "abs" = some none)
    (n_list : PySem.W.nsIn K mainGlobals "list" = some none) :
    ∃ fd : FuncData, (∀ (s : Shared) (v : Value), BindsTo s fd ⟨[v], []⟩ [("script", v)]) ∧ ∀ base : Heap, K.In base → base.Ns mainGlobals mg → FnOk l.prog w K mg base CX0 9 fa fd ["script"] (sp_law K) := by
  have e : fa = f_law := by
    have z := hfa.symm.trans (PySem.W.mg_of X G g_law)
    injection z with z
    injection z
  rw [e]
  let T : TX K mg w := ⟨e_MajordomoError, (PySem.W.mg_of X G g_MajordomoError), x_MajordomoError, k_MajordomoError, s_MajordomoError, t_MajordomoError, e_CodecError, (PySem.W.mg_of X G g_CodecError), x_CodecError, k_CodecError, s_CodecError, t_CodecError, e_StoreError, (PySem.W.mg_of X G g_StoreError), x_StoreError, k_StoreError, s_StoreError, t_StoreError, e_BadTransaction, (PySem.W.mg_of X G g_BadTransaction), x_BadTransaction, k_BadTransaction, s_BadTransaction, t_BadTransaction, (PySem.W.exm_ref s_BadTransaction hx_BadTransaction t_BadTransaction su_BadTransaction), e_TooNew, (PySem.W.mg_of X G g_TooNew), x_TooNew, k_TooNew, s_TooNew, t_TooNew, (PySem.W.exm_ref s_StoreError hx_StoreError t_StoreError sb_BadTransaction_StoreError), ⟨Xhg_BadTransaction, Xhk_BadTransaction, Xhs_BadTransaction, Xhd_BadTransaction, Xha_BadTransaction, Xhn_BadTransaction, Xht_BadTransaction, Xhm_BadTransaction⟩, y_BadTransaction_BadTransaction, y_BadTransaction_TooNew, y_BadTransaction_CodecError, f_has_plain_characters, (PySem.W.fnOf "has_plain_characters" "has_plain_characters" (defArgs s_has_plain_characters) (defBody s_has_plain_characters) (defScope s_has_plain_characters) .none kV_has_plain_characters dc_has_plain_characters pm_has_plain_characters an_has_plain_characters cd_has_plain_characters ct_has_plain_characters), (fun_mk (st := s_has_plain_characters) l_has_plain_characters c_has_plain_characters k_has_plain_characters), ((fun_mk (st := s_has_plain_characters) l_has_plain_characters c_has_plain_characters k_has_plain_characters).binds (ps := ["text"]) fun _ _ _ _ _ _ us hl => match us, hl with | [_], _ => rfl), (PySem.W.mg_of X G g_has_plain_characters), f_is_integer_within, (PySem.W.fnOf "is_integer_within" "is_integer_within" (defArgs s_is_integer_within) (defBody s_is_integer_within) (defScope s_is_integer_within) .none kV_is_integer_within dc_is_integer_within pm_is_integer_within an_is_integer_within cd_is_integer_within ct_is_integer_within), (fun_mk (st := s_is_integer_within) l_is_integer_within c_is_integer_within k_is_integer_within), ((fun_mk (st := s_is_integer_within) l_is_integer_within c_is_integer_within k_is_integer_within).binds (ps := ["number", "low", "high"]) fun _ _ _ _ _ _ us hl => match us, hl with | [_, _, _], _ => rfl), (PySem.W.mg_of X G g_is_integer_within), f_is_plain_name, (PySem.W.fnOf "is_plain_name" "is_plain_name" (defArgs s_is_plain_name) (defBody s_is_plain_name) (defScope s_is_plain_name) .none kV_is_plain_name dc_is_plain_name pm_is_plain_name an_is_plain_name cd_is_plain_name ct_is_plain_name), (fun_mk (st := s_is_plain_name) l_is_plain_name c_is_plain_name k_is_plain_name), ((fun_mk (st := s_is_plain_name) l_is_plain_name c_is_plain_name k_is_plain_name).binds (ps := ["name"]) fun _ _ _ _ _ _ us hl => match us, hl with | [_], _ => rfl), (PySem.W.mg_of X G g_is_plain_name), f_is_slot_name, (PySem.W.fnOf "is_slot_name" "is_slot_name" (defArgs s_is_slot_name) (defBody s_is_slot_name) (defScope s_is_slot_name) .none kV_is_slot_name dc_is_slot_name pm_is_slot_name an_is_slot_name cd_is_slot_name ct_is_slot_name), (fun_mk (st := s_is_slot_name) l_is_slot_name c_is_slot_name k_is_slot_name), ((fun_mk (st := s_is_slot_name) l_is_slot_name c_is_slot_name k_is_slot_name).binds (ps := ["name"]) fun _ _ _ _ _ _ us hl => match us, hl with | [_], _ => rfl), (PySem.W.mg_of X G g_is_slot_name), f_is_text, (PySem.W.fnOf "is_text" "is_text" (defArgs s_is_text) (defBody s_is_text) (defScope s_is_text) .none kV_is_text dc_is_text pm_is_text an_is_text cd_is_text ct_is_text), (fun_mk (st := s_is_text) l_is_text c_is_text k_is_text), ((fun_mk (st := s_is_text) l_is_text c_is_text k_is_text).binds (ps := ["text"]) fun _ _ _ _ _ _ us hl => match us, hl with | [_], _ => rfl), (PySem.W.mg_of X G g_is_text), f_is_count, (PySem.W.fnOf "is_count" "is_count" (defArgs s_is_count) (defBody s_is_count) (defScope s_is_count) .none kV_is_count dc_is_count pm_is_count an_is_count cd_is_count ct_is_count), (fun_mk (st := s_is_count) l_is_count c_is_count k_is_count), ((fun_mk (st := s_is_count) l_is_count c_is_count k_is_count).binds (ps := ["number"]) fun _ _ _ _ _ _ us hl => match us, hl with | [_], _ => rfl), (PySem.W.mg_of X G g_is_count), f_is_zone, (PySem.W.fnOf "is_zone" "is_zone" (defArgs s_is_zone) (defBody s_is_zone) (defScope s_is_zone) .none kV_is_zone dc_is_zone pm_is_zone an_is_zone cd_is_zone ct_is_zone), (fun_mk (st := s_is_zone) l_is_zone c_is_zone k_is_zone), ((fun_mk (st := s_is_zone) l_is_zone c_is_zone k_is_zone).binds (ps := ["zone"]) fun _ _ _ _ _ _ us hl => match us, hl with | [_], _ => rfl), (PySem.W.mg_of X G g_is_zone), f_is_key, (PySem.W.fnOf "is_key" "is_key" (defArgs s_is_key) (defBody s_is_key) (defScope s_is_key) .none kV_is_key dc_is_key pm_is_key an_is_key cd_is_key ct_is_key), (fun_mk (st := s_is_key) l_is_key c_is_key k_is_key), ((fun_mk (st := s_is_key) l_is_key c_is_key k_is_key).binds (ps := ["kind", "name"]) fun _ _ _ _ _ _ us hl => match us, hl with | [_, _], _ => rfl), (PySem.W.mg_of X G g_is_key), f__is_beat, (PySem.W.fnOf "_is_beat" "_is_beat" (defArgs s__is_beat) (defBody s__is_beat) (defScope s__is_beat) .none kV__is_beat dc__is_beat pm__is_beat an__is_beat cd__is_beat ct__is_beat), (fun_mk (st := s__is_beat) l__is_beat c__is_beat k__is_beat), ((fun_mk (st := s__is_beat) l__is_beat c__is_beat k__is_beat).binds (ps := ["value"]) fun _ _ _ _ _ _ us hl => match us, hl with | [_], _ => rfl), (PySem.W.mg_of X G g__is_beat), f__is_drain, (PySem.W.fnOf "_is_drain" "_is_drain" (defArgs s__is_drain) (defBody s__is_drain) (defScope s__is_drain) .none kV__is_drain dc__is_drain pm__is_drain an__is_drain cd__is_drain ct__is_drain), (fun_mk (st := s__is_drain) l__is_drain c__is_drain k__is_drain), ((fun_mk (st := s__is_drain) l__is_drain c__is_drain k__is_drain).binds (ps := ["value"]) fun _ _ _ _ _ _ us hl => match us, hl with | [_], _ => rfl), (PySem.W.mg_of X G g__is_drain), f__is_node, (PySem.W.fnOf "_is_node" "_is_node" (defArgs s__is_node) (defBody s__is_node) (defScope s__is_node) .none kV__is_node dc__is_node pm__is_node an__is_node cd__is_node ct__is_node), (fun_mk (st := s__is_node) l__is_node c__is_node k__is_node), ((fun_mk (st := s__is_node) l__is_node c__is_node k__is_node).binds (ps := ["value"]) fun _ _ _ _ _ _ us hl => match us, hl with | [_], _ => rfl), (PySem.W.mg_of X G g__is_node), f__is_note, (PySem.W.fnOf "_is_note" "_is_note" (defArgs s__is_note) (defBody s__is_note) (defScope s__is_note) .none kV__is_note dc__is_note pm__is_note an__is_note cd__is_note ct__is_note), (fun_mk (st := s__is_note) l__is_note c__is_note k__is_note), ((fun_mk (st := s__is_note) l__is_note c__is_note k__is_note).binds (ps := ["value"]) fun _ _ _ _ _ _ us hl => match us, hl with | [_], _ => rfl), (PySem.W.mg_of X G g__is_note), f__is_rollout, (PySem.W.fnOf "_is_rollout" "_is_rollout" (defArgs s__is_rollout) (defBody s__is_rollout) (defScope s__is_rollout) .none kV__is_rollout dc__is_rollout pm__is_rollout an__is_rollout cd__is_rollout ct__is_rollout), (fun_mk (st := s__is_rollout) l__is_rollout c__is_rollout k__is_rollout), ((fun_mk (st := s__is_rollout) l__is_rollout c__is_rollout k__is_rollout).binds (ps := ["value"]) fun _ _ _ _ _ _ us hl => match us, hl with | [_], _ => rfl), (PySem.W.mg_of X G g__is_rollout), f__are_open_numbers, (PySem.W.fnOf "_are_open_numbers" "_are_open_numbers" (defArgs s__are_open_numbers) (defBody s__are_open_numbers) (defScope s__are_open_numbers) .none kV__are_open_numbers dc__are_open_numbers pm__are_open_numbers an__are_open_numbers cd__are_open_numbers ct__are_open_numbers), (fun_mk (st := s__are_open_numbers) l__are_open_numbers c__are_open_numbers k__are_open_numbers), ((fun_mk (st := s__are_open_numbers) l__are_open_numbers c__are_open_numbers k__are_open_numbers).binds (ps := ["numbers"]) fun _ _ _ _ _ _ us hl => match us, hl with | [_], _ => rfl), (PySem.W.mg_of X G g__are_open_numbers), f__is_service, (PySem.W.fnOf "_is_service" "_is_service" (defArgs s__is_service) (defBody s__is_service) (defScope s__is_service) .none kV__is_service dc__is_service pm__is_service an__is_service cd__is_service ct__is_service), (fun_mk (st := s__is_service) l__is_service c__is_service k__is_service), ((fun_mk (st := s__is_service) l__is_service c__is_service k__is_service).binds (ps := ["value"]) fun _ _ _ _ _ _ us hl => match us, hl with | [_], _ => rfl), (PySem.W.mg_of X G g__is_service), f__is_task, (PySem.W.fnOf "_is_task" "_is_task" (defArgs s__is_task) (defBody s__is_task) (defScope s__is_task) .none kV__is_task dc__is_task pm__is_task an__is_task cd__is_task ct__is_task), (fun_mk (st := s__is_task) l__is_task c__is_task k__is_task), ((fun_mk (st := s__is_task) l__is_task c__is_task k__is_task).binds (ps := ["value"]) fun _ _ _ _ _ _ us hl => match us, hl with | [_], _ => rfl), (PySem.W.mg_of X G g__is_task), f_is_object, (PySem.W.fnOf "is_object" "is_object" (defArgs s_is_object) (defBody s_is_object) (defScope s_is_object) .none kV_is_object dc_is_object pm_is_object an_is_object cd_is_object ct_is_object), (fun_mk (st := s_is_object) l_is_object c_is_object k_is_object), ((fun_mk (st := s_is_object) l_is_object c_is_object k_is_object).binds (ps := ["kind", "name", "value"]) fun _ _ _ _ _ _ us hl => match us, hl with | [_, _, _], _ => rfl), (PySem.W.mg_of X G g_is_object), f__is_tuple_of, (PySem.W.fnOf "_is_tuple_of" "_is_tuple_of" (defArgs s__is_tuple_of) (defBody s__is_tuple_of) (defScope s__is_tuple_of) .none kV__is_tuple_of dc__is_tuple_of pm__is_tuple_of an__is_tuple_of cd__is_tuple_of ct__is_tuple_of), (fun_mk (st := s__is_tuple_of) l__is_tuple_of c__is_tuple_of k__is_tuple_of), ((fun_mk (st := s__is_tuple_of) l__is_tuple_of c__is_tuple_of k__is_tuple_of).binds (ps := ["value", "size"]) fun _ _ _ _ _ _ us hl => match us, hl with | [_, _], _ => rfl), (PySem.W.mg_of X G g__is_tuple_of), f__is_condition, (PySem.W.fnOf "_is_condition" "_is_condition" (defArgs s__is_condition) (defBody s__is_condition) (defScope s__is_condition) .none kV__is_condition dc__is_condition pm__is_condition an__is_condition cd__is_condition ct__is_condition), (fun_mk (st := s__is_condition) l__is_condition c__is_condition k__is_condition), ((fun_mk (st := s__is_condition) l__is_condition c__is_condition k__is_condition).binds (ps := ["condition"]) fun _ _ _ _ _ _ us hl => match us, hl with | [_], _ => rfl), (PySem.W.mg_of X G g__is_condition), f__is_put, (PySem.W.fnOf "_is_put" "_is_put" (defArgs s__is_put) (defBody s__is_put) (defScope s__is_put) .none kV__is_put dc__is_put pm__is_put an__is_put cd__is_put ct__is_put), (fun_mk (st := s__is_put) l__is_put c__is_put k__is_put), ((fun_mk (st := s__is_put) l__is_put c__is_put k__is_put).binds (ps := ["put"]) fun _ _ _ _ _ _ us hl => match us, hl with | [_], _ => rfl), (PySem.W.mg_of X G g__is_put), f__is_delete, (PySem.W.fnOf "_is_delete" "_is_delete" (defArgs s__is_delete) (defBody s__is_delete) (defScope s__is_delete) .none kV__is_delete dc__is_delete pm__is_delete an__is_delete cd__is_delete ct__is_delete), (fun_mk (st := s__is_delete) l__is_delete c__is_delete k__is_delete), ((fun_mk (st := s__is_delete) l__is_delete c__is_delete k__is_delete).binds (ps := ["delete"]) fun _ _ _ _ _ _ us hl => match us, hl with | [_], _ => rfl), (PySem.W.mg_of X G g__is_delete), f__are_distinct, (PySem.W.fnOf "_are_distinct" "_are_distinct" (defArgs s__are_distinct) (defBody s__are_distinct) (defScope s__are_distinct) .none kV__are_distinct dc__are_distinct pm__are_distinct an__are_distinct cd__are_distinct ct__are_distinct), (fun_mk (st := s__are_distinct) l__are_distinct c__are_distinct k__are_distinct), ((fun_mk (st := s__are_distinct) l__are_distinct c__are_distinct k__are_distinct).binds (ps := ["keys"]) fun _ _ _ _ _ _ us hl => match us, hl with | [_], _ => rfl), (PySem.W.mg_of X G g__are_distinct), f_check_transaction, (PySem.W.fnOf "check_transaction" "check_transaction" (defArgs s_check_transaction) (defBody s_check_transaction) (defScope s_check_transaction) .none kV_check_transaction dc_check_transaction pm_check_transaction an_check_transaction cd_check_transaction ct_check_transaction), (fun_mk (st := s_check_transaction) l_check_transaction c_check_transaction k_check_transaction), ((fun_mk (st := s_check_transaction) l_check_transaction c_check_transaction k_check_transaction).binds (ps := ["transaction"]) fun _ _ _ _ _ _ us hl => match us, hl with | [_], _ => rfl), (PySem.W.mg_of X G g_check_transaction), f__law_draws, (PySem.W.fnOf "_law_draws" "_law_draws" (defArgs s__law_draws) (defBody s__law_draws) (defScope s__law_draws) .none kV__law_draws dc__law_draws pm__law_draws an__law_draws cd__law_draws ct__law_draws), (fun_mk (st := s__law_draws) l__law_draws c__law_draws k__law_draws), ((fun_mk (st := s__law_draws) l__law_draws c__law_draws k__law_draws).binds (ps := ["script", "many"]) fun _ _ _ _ _ _ us hl => match us, hl with | [_, _], _ => rfl), (PySem.W.mg_of X G g__law_draws), f__law_name, (PySem.W.fnOf "_law_name" "_law_name" (defArgs s__law_name) (defBody s__law_name) (defScope s__law_name) .none kV__law_name dc__law_name pm__law_name an__law_name cd__law_name ct__law_name), (fun_mk (st := s__law_name) l__law_name c__law_name k__law_name), ((fun_mk (st := s__law_name) l__law_name c__law_name k__law_name).binds (ps := ["draws"]) fun _ _ _ _ _ _ us hl => match us, hl with | [_], _ => rfl), (PySem.W.mg_of X G g__law_name), f__law_text, (PySem.W.fnOf "_law_text" "_law_text" (defArgs s__law_text) (defBody s__law_text) (defScope s__law_text) .none kV__law_text dc__law_text pm__law_text an__law_text cd__law_text ct__law_text), (fun_mk (st := s__law_text) l__law_text c__law_text k__law_text), ((fun_mk (st := s__law_text) l__law_text c__law_text k__law_text).binds (ps := ["draws"]) fun _ _ _ _ _ _ us hl => match us, hl with | [_], _ => rfl), (PySem.W.mg_of X G g__law_text), f__law_zone, (PySem.W.fnOf "_law_zone" "_law_zone" (defArgs s__law_zone) (defBody s__law_zone) (defScope s__law_zone) .none kV__law_zone dc__law_zone pm__law_zone an__law_zone cd__law_zone ct__law_zone), (fun_mk (st := s__law_zone) l__law_zone c__law_zone k__law_zone), ((fun_mk (st := s__law_zone) l__law_zone c__law_zone k__law_zone).binds (ps := ["draws"]) fun _ _ _ _ _ _ us hl => match us, hl with | [_], _ => rfl), (PySem.W.mg_of X G g__law_zone), f__law_open, (PySem.W.fnOf "_law_open" "_law_open" (defArgs s__law_open) (defBody s__law_open) (defScope s__law_open) .none kV__law_open dc__law_open pm__law_open an__law_open cd__law_open ct__law_open), (fun_mk (st := s__law_open) l__law_open c__law_open k__law_open), ((fun_mk (st := s__law_open) l__law_open c__law_open k__law_open).binds (ps := ["draw"]) fun _ _ _ _ _ _ us hl => match us, hl with | [_], _ => rfl), (PySem.W.mg_of X G g__law_open), f__law_key, (PySem.W.fnOf "_law_key" "_law_key" (defArgs s__law_key) (defBody s__law_key) (defScope s__law_key) .none kV__law_key dc__law_key pm__law_key an__law_key cd__law_key ct__law_key), (fun_mk (st := s__law_key) l__law_key c__law_key k__law_key), ((fun_mk (st := s__law_key) l__law_key c__law_key k__law_key).binds (ps := ["draws"]) fun _ _ _ _ _ _ us hl => match us, hl with | [_], _ => rfl), (PySem.W.mg_of X G g__law_key), f__law_worth, (PySem.W.fnOf "_law_worth" "_law_worth" (defArgs s__law_worth) (defBody s__law_worth) (defScope s__law_worth) .none kV__law_worth dc__law_worth pm__law_worth an__law_worth cd__law_worth ct__law_worth), (fun_mk (st := s__law_worth) l__law_worth c__law_worth k__law_worth), ((fun_mk (st := s__law_worth) l__law_worth c__law_worth k__law_worth).binds (ps := ["kind", "draws"]) fun _ _ _ _ _ _ us hl => match us, hl with | [_, _], _ => rfl), (PySem.W.mg_of X G g__law_worth), f__law_find, (PySem.W.fnOf "_law_find" "_law_find" (defArgs s__law_find) (defBody s__law_find) (defScope s__law_find) .none kV__law_find dc__law_find pm__law_find an__law_find cd__law_find ct__law_find), (fun_mk (st := s__law_find) l__law_find c__law_find k__law_find), ((fun_mk (st := s__law_find) l__law_find c__law_find k__law_find).binds (ps := ["entries", "kind", "name"]) fun _ _ _ _ _ _ us hl => match us, hl with | [_, _, _], _ => rfl), (PySem.W.mg_of X G g__law_find), f__law_transaction, (PySem.W.fnOf "_law_transaction" "_law_transaction" (defArgs s__law_transaction) (defBody s__law_transaction) (defScope s__law_transaction) .none kV__law_transaction dc__law_transaction pm__law_transaction an__law_transaction cd__law_transaction ct__law_transaction), (fun_mk (st := s__law_transaction) l__law_transaction c__law_transaction k__law_transaction), ((fun_mk (st := s__law_transaction) l__law_transaction c__law_transaction k__law_transaction).binds (ps := ["entries", "draws"]) fun _ _ _ _ _ _ us hl => match us, hl with | [_, _], _ => rfl), (PySem.W.mg_of X G g__law_transaction), f__law_refused, (PySem.W.fnOf "_law_refused" "_law_refused" (defArgs s__law_refused) (defBody s__law_refused) (defScope s__law_refused) .none kV__law_refused dc__law_refused pm__law_refused an__law_refused cd__law_refused ct__law_refused), (fun_mk (st := s__law_refused) l__law_refused c__law_refused k__law_refused), ((fun_mk (st := s__law_refused) l__law_refused c__law_refused k__law_refused).binds (ps := ["transaction"]) fun _ _ _ _ _ _ us hl => match us, hl with | [_], _ => rfl), (PySem.W.mg_of X G g__law_refused), f__law_wrong, (PySem.W.fnOf "_law_wrong" "_law_wrong" (defArgs s__law_wrong) (defBody s__law_wrong) (defScope s__law_wrong) .none kV__law_wrong dc__law_wrong pm__law_wrong an__law_wrong cd__law_wrong ct__law_wrong), (fun_mk (st := s__law_wrong) l__law_wrong c__law_wrong k__law_wrong), ((fun_mk (st := s__law_wrong) l__law_wrong c__law_wrong k__law_wrong).binds (ps := ["transaction", "draws"]) fun _ _ _ _ _ _ us hl => match us, hl with | [_, _], _ => rfl), (PySem.W.mg_of X G g__law_wrong), f_law, (PySem.W.fnOf "law" "law" (defArgs s_law) (defBody s_law) (defScope s_law) .none kV_law dc_law pm_law an_law cd_law ct_law), (fun_mk (st := s_law) l_law c_law k_law), ((fun_mk (st := s_law) l_law c_law k_law).binds (ps := ["script"]) fun _ _ _ _ _ _ us hl => match us, hl with | [_], _ => rfl), (PySem.W.mg_of X G g_law), t_SPACE, (PySem.W.mg_of X G c_SPACE), t_PERCENT, (PySem.W.mg_of X G c_PERCENT), t_TILDE, (PySem.W.mg_of X G c_TILDE), t_DIGITS, (PySem.W.mg_of X G c_DIGITS), ca_KINDS, (PySem.W.mg_of X G c_KINDS), (fun H => Or.inr ⟨_, cv_KINDS.toArray, cn_KINDS, q_KINDS, rfl, rfl, (by rw [List.size_toArray, ← (Vals.length v_KINDS)]; exact (by decide : 7 ≤ sizeLine)), (by simpa using v_KINDS)⟩), ca_STATES, (PySem.W.mg_of X G c_STATES), (fun H => Or.inr ⟨_, cv_STATES.toArray, cn_STATES, q_STATES, rfl, rfl, (by rw [List.size_toArray, ← (Vals.length v_STATES)]; exact (by decide : 4 ≤ sizeLine)), (by simpa using v_STATES)⟩), t_NAME_CHARACTERS, (PySem.W.mg_of X G c_NAME_CHARACTERS), t_MOST_NAME, (PySem.W.mg_of X G c_MOST_NAME), t_MOST_TEXT, (PySem.W.mg_of X G c_MOST_TEXT), t_MOST_COUNT, (PySem.W.mg_of X G c_MOST_COUNT), t_MOST_NUMBER, (PySem.W.mg_of X G c_MOST_NUMBER), t_MOST_MEMBERS, (PySem.W.mg_of X G c_MOST_MEMBERS), ca_VALUE_FORMS, (PySem.W.mg_of X G c_VALUE_FORMS), ce_VALUE_FORMS, cn_VALUE_FORMS, ⟨q_VALUE_FORMS, w_VALUE_FORMS, z_VALUE_FORMS⟩, j_VALUE_FORMS_beat, j_VALUE_FORMS_drain, j_VALUE_FORMS_node, j_VALUE_FORMS_note, j_VALUE_FORMS_rollout, j_VALUE_FORMS_service, j_VALUE_FORMS_task, (PySem.W.mg_none_of X G n_isinstance), (PySem.W.mg_none_of X G n_int), (PySem.W.mg_none_of X G n_bool), (PySem.W.mg_none_of X G n_len), (PySem.W.mg_none_of X G n_str), (PySem.W.mg_none_of X G n_all), (PySem.W.mg_none_of X G n_ord), (PySem.W.mg_none_of X G n_tuple), (PySem.W.mg_none_of X G n_range), (PySem.W.mg_none_of X G n_abs), (PySem.W.mg_none_of X G n_list)⟩
  exact ⟨T.d_law, fun s v => .of_eq rfl, fun base _ _ => ok_law T⟩
end My
open PySem PySem.W PyProof.Rows
set_option maxHeartbeats 0 in
theorem PySem.Challenge.cw_majordomo_k31_transactions_that_are_none_holds : PySem.Challenge.rw_majordomo_k31_transactions_that_are_none.Holds := by
  w_on; o_law; k_head; (case hw => w_witness2)
  k_fill
  refine L2.walk_of (l := PySem.Challenge.rw_majordomo_k31_transactions_that_are_none) (n := 63) (k := 9) (x := "script") (CX := (fun _ => L2.CX0)) (sp := fun w => My.sp_law _) rfl (by decide) rfl ⟨rfl, by decide, by decide⟩ (fun w h Y => PySem.W.kIn_of Y) ?F (fun _ _ a ns hl _ hS => ⟨a, ns, rfl, hS, hl, fun _ => rfl⟩) (fun _ _ _ _ _ h => h)
  case F =>
    intro w mg fa h KX G hmg
    refine' My.all_mk KX G hmg ?g_MajordomoError ?x_MajordomoError ?k_MajordomoError ?s_MajordomoError ?t_MajordomoError ?g_CodecError ?x_CodecError ?k_CodecError ?s_CodecError ?t_CodecError ?g_StoreError ?x_StoreError ?k_StoreError ?s_StoreError ?t_StoreError ?hx_StoreError ?g_BadTransaction ?x_BadTransaction ?k_BadTransaction ?s_BadTransaction ?t_BadTransaction ?hx_BadTransaction ?su_BadTransaction ?g_TooNew ?x_TooNew ?k_TooNew ?s_TooNew ?t_TooNew ?sb_BadTransaction_StoreError ?Xhg_BadTransaction ?Xhk_BadTransaction ?Xhs_BadTransaction ?Xhd_BadTransaction ?Xha_BadTransaction ?Xhn_BadTransaction ?Xht_BadTransaction ?Xhm_BadTransaction ?y_BadTransaction_BadTransaction ?y_BadTransaction_TooNew ?y_BadTransaction_CodecError ?g_has_plain_characters ?l_has_plain_characters ?c_has_plain_characters ?k_has_plain_characters ?g_is_integer_within ?l_is_integer_within ?c_is_integer_within ?k_is_integer_within ?g_is_plain_name ?l_is_plain_name ?c_is_plain_name ?k_is_plain_name ?g_is_slot_name ?l_is_slot_name ?c_is_slot_name ?k_is_slot_name ?g_is_text ?l_is_text ?c_is_text ?k_is_text ?g_is_count ?l_is_count ?c_is_count ?k_is_count ?g_is_zone ?l_is_zone ?c_is_zone ?k_is_zone ?g_is_key ?l_is_key ?c_is_key ?k_is_key ?g__is_beat ?l__is_beat ?c__is_beat ?k__is_beat ?g__is_drain ?l__is_drain ?c__is_drain ?k__is_drain ?g__is_node ?l__is_node ?c__is_node ?k__is_node ?g__is_note ?l__is_note ?c__is_note ?k__is_note ?g__is_rollout ?l__is_rollout ?c__is_rollout ?k__is_rollout ?g__are_open_numbers ?l__are_open_numbers ?c__are_open_numbers ?k__are_open_numbers ?g__is_service ?l__is_service ?c__is_service ?k__is_service ?g__is_task ?l__is_task ?c__is_task ?k__is_task ?g_is_object ?l_is_object ?c_is_object ?k_is_object ?g__is_tuple_of ?l__is_tuple_of ?c__is_tuple_of ?k__is_tuple_of ?g__is_condition ?l__is_condition ?c__is_condition ?k__is_condition ?g__is_put ?l__is_put ?c__is_put ?k__is_put ?g__is_delete ?l__is_delete ?c__is_delete ?k__is_delete ?g__are_distinct ?l__are_distinct ?c__are_distinct ?k__are_distinct ?g_check_transaction ?l_check_transaction ?c_check_transaction ?k_check_transaction ?g__law_draws ?l__law_draws ?c__law_draws ?k__law_draws ?g__law_name ?l__law_name ?c__law_name ?k__law_name ?g__law_text ?l__law_text ?c__law_text ?k__law_text ?g__law_zone ?l__law_zone ?c__law_zone ?k__law_zone ?g__law_open ?l__law_open ?c__law_open ?k__law_open ?g__law_key ?l__law_key ?c__law_key ?k__law_key ?g__law_worth ?l__law_worth ?c__law_worth ?k__law_worth ?g__law_find ?l__law_find ?c__law_find ?k__law_find ?g__law_transaction ?l__law_transaction ?c__law_transaction ?k__law_transaction ?g__law_refused ?l__law_refused ?c__law_refused ?k__law_refused ?g__law_wrong ?l__law_wrong ?c__law_wrong ?k__law_wrong ?g_law ?l_law ?c_law ?k_law ?c_SPACE ?c_PERCENT ?c_TILDE ?c_DIGITS ?c_KINDS ?q_KINDS ?v_KINDS ?c_STATES ?q_STATES ?v_STATES ?c_NAME_CHARACTERS ?c_MOST_NAME ?c_MOST_TEXT ?c_MOST_COUNT ?c_MOST_NUMBER ?c_MOST_MEMBERS ?c_VALUE_FORMS ?q_VALUE_FORMS ?w_VALUE_FORMS ?z_VALUE_FORMS ?j_VALUE_FORMS_beat ?j_VALUE_FORMS_drain ?j_VALUE_FORMS_node ?j_VALUE_FORMS_note ?j_VALUE_FORMS_rollout ?j_VALUE_FORMS_service ?j_VALUE_FORMS_task ?n_isinstance ?n_int ?n_bool ?n_len ?n_str ?n_all ?n_ord ?n_tuple ?n_range ?n_abs ?n_list
    (case g_MajordomoError => k_is); (case x_MajordomoError => k_exc); (case k_MajordomoError => k_is); (case s_MajordomoError => k_is); (case t_MajordomoError => k_is); (case g_CodecError => k_is); (case x_CodecError => k_exc); (case k_CodecError => k_is); (case s_CodecError => k_is); (case t_CodecError => k_is); (case g_StoreError => k_is); (case x_StoreError => k_exc); (case k_StoreError => k_is); (case s_StoreError => k_is); (case t_StoreError => k_is); (case hx_StoreError => k_is); (case g_BadTransaction => k_is); (case x_BadTransaction => k_exc); (case k_BadTransaction => k_is); (case s_BadTransaction => k_is); (case t_BadTransaction => k_is); (case hx_BadTransaction => k_is); (case su_BadTransaction => k_is); (case g_TooNew => k_is); (case x_TooNew => k_exc); (case k_TooNew => k_is); (case s_TooNew => k_is); (case t_TooNew => k_is); (case sb_BadTransaction_StoreError => k_is); (case Xhg_BadTransaction => k_is); (case Xhk_BadTransaction => k_is); (case Xhs_BadTransaction => k_is); (case Xhd_BadTransaction => k_is); (case Xha_BadTransaction => k_is); (case Xhn_BadTransaction => k_is); (case Xht_BadTransaction => k_is); (case Xhm_BadTransaction => k_is); (case y_BadTransaction_BadTransaction => kit_is); (case y_BadTransaction_TooNew => kit_is); (case y_BadTransaction_CodecError => kit_is); (case g_has_plain_characters => k_is); (case l_has_plain_characters => k_is); (case c_has_plain_characters => k_is); (case k_has_plain_characters => k_is); (case g_is_integer_within => k_is); (case l_is_integer_within => k_is); (case c_is_integer_within => k_is); (case k_is_integer_within => k_is); (case g_is_plain_name => k_is); (case l_is_plain_name => k_is); (case c_is_plain_name => k_is); (case k_is_plain_name => k_is); (case g_is_slot_name => k_is); (case l_is_slot_name => k_is); (case c_is_slot_name => k_is); (case k_is_slot_name => k_is); (case g_is_text => k_is); (case l_is_text => k_is); (case c_is_text => k_is); (case k_is_text => k_is); (case g_is_count => k_is); (case l_is_count => k_is); (case c_is_count => k_is); (case k_is_count => k_is); (case g_is_zone => k_is); (case l_is_zone => k_is); (case c_is_zone => k_is); (case k_is_zone => k_is); (case g_is_key => k_is); (case l_is_key => k_is); (case c_is_key => k_is); (case k_is_key => k_is); (case g__is_beat => k_is); (case l__is_beat => k_is); (case c__is_beat => k_is); (case k__is_beat => k_is); (case g__is_drain => k_is); (case l__is_drain => k_is); (case c__is_drain => k_is); (case k__is_drain => k_is); (case g__is_node => k_is); (case l__is_node => k_is); (case c__is_node => k_is); (case k__is_node => k_is); (case g__is_note => k_is); (case l__is_note => k_is); (case c__is_note => k_is); (case k__is_note => k_is); (case g__is_rollout => k_is); (case l__is_rollout => k_is); (case c__is_rollout => k_is); (case k__is_rollout => k_is); (case g__are_open_numbers => k_is); (case l__are_open_numbers => k_is); (case c__are_open_numbers => k_is); (case k__are_open_numbers => k_is); (case g__is_service => k_is); (case l__is_service => k_is); (case c__is_service => k_is); (case k__is_service => k_is); (case g__is_task => k_is); (case l__is_task => k_is); (case c__is_task => k_is); (case k__is_task => k_is); (case g_is_object => k_is); (case l_is_object => k_is); (case c_is_object => k_is); (case k_is_object => k_is); (case g__is_tuple_of => k_is); (case l__is_tuple_of => k_is); (case c__is_tuple_of => k_is); (case k__is_tuple_of => k_is); (case g__is_condition => k_is); (case l__is_condition => k_is); (case c__is_condition => k_is); (case k__is_condition => k_is); (case g__is_put => k_is); (case l__is_put => k_is); (case c__is_put => k_is); (case k__is_put => k_is); (case g__is_delete => k_is); (case l__is_delete => k_is); (case c__is_delete => k_is); (case k__is_delete => k_is); (case g__are_distinct => k_is); (case l__are_distinct => k_is); (case c__are_distinct => k_is); (case k__are_distinct => k_is); (case g_check_transaction => k_is); (case l_check_transaction => k_is); (case c_check_transaction => k_is); (case k_check_transaction => k_is); (case g__law_draws => k_is); (case l__law_draws => k_is); (case c__law_draws => k_is); (case k__law_draws => k_is); (case g__law_name => k_is); (case l__law_name => k_is); (case c__law_name => k_is); (case k__law_name => k_is); (case g__law_text => k_is); (case l__law_text => k_is); (case c__law_text => k_is); (case k__law_text => k_is); (case g__law_zone => k_is); (case l__law_zone => k_is); (case c__law_zone => k_is); (case k__law_zone => k_is); (case g__law_open => k_is); (case l__law_open => k_is); (case c__law_open => k_is); (case k__law_open => k_is); (case g__law_key => k_is); (case l__law_key => k_is); (case c__law_key => k_is); (case k__law_key => k_is); (case g__law_worth => k_is); (case l__law_worth => k_is); (case c__law_worth => k_is); (case k__law_worth => k_is); (case g__law_find => k_is); (case l__law_find => k_is); (case c__law_find => k_is); (case k__law_find => k_is); (case g__law_transaction => k_is); (case l__law_transaction => k_is); (case c__law_transaction => k_is); (case k__law_transaction => k_is); (case g__law_refused => k_is); (case l__law_refused => k_is); (case c__law_refused => k_is); (case k__law_refused => k_is); (case g__law_wrong => k_is); (case l__law_wrong => k_is); (case c__law_wrong => k_is); (case k__law_wrong => k_is); (case g_law => k_is); (case l_law => k_is); (case c_law => k_is); (case k_law => k_is); (case c_SPACE => k_is); (case c_PERCENT => k_is); (case c_TILDE => k_is); (case c_DIGITS => k_is); (case c_KINDS => k_is); (case q_KINDS => k_is); (case v_KINDS => (repeat (first | exact .nil | refine .cons ⟨_, rfl⟩ ?_ | refine .cons rfl ?_))); (case c_STATES => k_is); (case q_STATES => k_is); (case v_STATES => (repeat (first | exact .nil | refine .cons ⟨_, rfl⟩ ?_ | refine .cons rfl ?_))); (case c_NAME_CHARACTERS => k_is); (case c_MOST_NAME => k_is); (case c_MOST_TEXT => k_is); (case c_MOST_COUNT => k_is); (case c_MOST_NUMBER => k_is); (case c_MOST_MEMBERS => k_is); (case c_VALUE_FORMS => k_is); (case q_VALUE_FORMS => k_is); (case w_VALUE_FORMS => (repeat (first | exact True.intro | refine ⟨⟨_, _, rfl, rfl⟩, ?_⟩))); (case z_VALUE_FORMS => (first | k_is | rfl | decide)); (case j_VALUE_FORMS_beat => k_is); (case j_VALUE_FORMS_drain => k_is); (case j_VALUE_FORMS_node => k_is); (case j_VALUE_FORMS_note => k_is); (case j_VALUE_FORMS_rollout => k_is); (case j_VALUE_FORMS_service => k_is); (case j_VALUE_FORMS_task => k_is); (case n_isinstance => k_is); (case n_int => k_is); (case n_bool => k_is); (case n_len => k_is); (case n_str => k_is); (case n_all => k_is); (case n_ord => k_is); (case n_tuple => k_is); (case n_range => k_is); (case n_abs => k_is); (case n_list => k_is)

