import PyProof.Rows.All
import Wide.All
import OpenK.AllK
import Wide.FinOn
import HandS.ForMost
import HandS.IsInst
import HandS.EndBits
import HandS.Wide
import HandS.WideBits
import HandS.TupAny
import HandS.Codes
import HandS.Defaults
import HandS.ForExc
import HandS.TryMany
import HandS.ExcIs
import HandS.TryElse
import HandS.DictComp
import HandS.Walk
import HandS.Text
import HandS.TupLe
import PySem.Challenge.RW_majordomo_k05_rows_that_hold_no_value
set_option Elab.async false
set_option linter.all false
set_option maxRecDepth 100000
set_option maxHeartbeats 4000000

namespace My
open PySem PySem.Spec PyProof.Rows L2
/-! own words: tests, heaps, items -/
theorem ifd {p A B : Prop} [Decidable p] (h1 : p → A) (h2 : ¬ p → B) : if decide p = true then A else B := by
  by_cases h : p
  · rw [decide_eq_true h]; exact (if_pos rfl).mpr (h1 h)
  · rw [decide_eq_false h]; exact (if_neg Bool.false_ne_true).mpr (h2 h)
theorem ifn {p A B : Prop} [Decidable p] (h1 : ¬ p → A) (h2 : p → B) : if (!decide p) = true then A else B := by
  by_cases h : p
  · rw [decide_eq_true h]; exact (if_neg Bool.false_ne_true).mpr (h2 h)
  · rw [decide_eq_false h]; exact (if_pos rfl).mpr (h1 h)
theorem ift {p A B : Prop} [Decidable p] (h : p) (h1 : A) : if decide p = true then A else B := by
  rw [decide_eq_true h]; exact (if_pos rfl).mpr h1
theorem iff0 {p A B : Prop} [Decidable p] (h : ¬ p) (h1 : B) : if decide p = true then A else B := by
  rw [decide_eq_false h]; exact (if_neg Bool.false_ne_true).mpr h1
theorem ifnt {p A B : Prop} [Decidable p] (h : p) (h1 : B) : if (!decide p) = true then A else B := by
  rw [decide_eq_true h]; exact (if_neg Bool.false_ne_true).mpr h1
theorem ifbt {b : Bool} {A B : Prop} (h : b = true) (h1 : A) : if b = true then A else B := (if_pos h).mpr h1
theorem ifbf {b : Bool} {A B : Prop} (h : b = false) (h1 : B) : if b = true then A else B := by rw [h]; exact h1
theorem ifb2 {b : Bool} {A B : Prop} (h1 : b = true → A) (h2 : b = false → B) : if b = true then A else B := by
  cases b with
  | true => exact h1 rfl
  | false => exact h2 rfl
theorem same_upd {H : Hp} {p : Addr} {o : HO} (h : H p = none) : Same H (upd H p o) := fun b x e => by
  rw [upd_ne (ne_of_none e h)]
  exact e
theorem same_put {H H' : Hp} {p : Addr} {o : HO} (e : Same H H') (h : H p = none) : Same H (upd H' p o) := fun b x q => by
  rw [upd_ne (ne_of_none q h)]
  exact e b x q
theorem sqt_same {K : PySem.W.Frag} {H H' : Hp} {a : Addr} {xs : List V} (e : Same H H') (h : SqT K H a xs) : SqT K H' a xs := by
  rcases h with (h | ⟨o, h⟩) | h
  · exact .inl (.inl (e _ _ h))
  · exact .inl (.inr ⟨o, e _ _ h⟩)
  · exact .inr h
theorem sql {K : PySem.W.Frag} {H : Hp} {a : Addr} {xs : List V} (h : H a = some (.lst xs)) : SqL K H a xs := .inl (.inl h)
theorem sqt {K : PySem.W.Frag} {H : Hp} {a : Addr} {xs : List V} (h : H a = some (.tup xs)) : SqT K H a xs := .inl (.inl h)
theorem sz {n : Nat} (h : n ≤ 100000) : n ≤ sizeLine := Nat.le_trans h (by decide)
theorem szl {n : Nat} (h : n ≤ 100000) : n < sizeLine := Nat.lt_of_le_of_lt h (by decide)
theorem map_at {α : Type} {f : α → V} {xs : List α} {i : Nat} {y : V} (h : (xs.map f)[i]? = some y) : ∃ x, xs[i]? = some x ∧ y = f x := by
  rw [List.getElem?_map] at h
  cases e : xs[i]? with
  | none => rw [e] at h; cases h
  | some x => rw [e] at h; exact ⟨x, rfl, (Option.some.inj h).symm⟩
theorem at_map {α : Type} {f : α → V} {xs : List α} {i : Nat} {x : α} (h : xs[i]? = some x) : atI (xs.map f) (i : Int) = some (f x) := atI_nat (by rw [List.getElem?_map, h]; rfl)
theorem take_more {α : Type} {l : List α} {i : Nat} {x : α} (h : l[i]? = some x) : l.take (i + 1) = l.take i ++ [x] := by
  rw [List.take_add_one, h]; rfl
/-! deep data stands as long as what was tracked stands -/
mutual
theorem dp_same {K : PySem.W.Frag} {H H' : Hp} (e : Same H H') : ∀ (d : PyData) {v : V}, Dp K H v d → Dp K H' v d
  | _, _, .non => .non
  | _, _, .bl b => .bl b
  | _, _, .int i => .int i
  | _, _, .str x => .str x
  | .list ds, _, .lst h a => .lst (e.seq h) (dpa_same e ds a)
  | .tuple ds, _, .tup h a => .tup (sqt_same e h) (dpa_same e ds a)
theorem dpa_same {K : PySem.W.Frag} {H H' : Hp} (e : Same H H') : ∀ (ds : List PyData) {vs : List V}, DpAll K H vs ds → DpAll K H' vs ds
  | [], _, .nil => .nil
  | d :: ds, _, .cons h a => .cons (dp_same e d h) (dpa_same e ds a)
end
theorem dpa_len {K : PySem.W.Frag} {H : Hp} : ∀ {vs : List V} {ds : List PyData}, DpAll K H vs ds → vs.length = ds.length
  | _, _, .nil => rfl
  | _, _, .cons _ a => by rw [List.length_cons, List.length_cons, dpa_len a]
theorem dpa_at {K : PySem.W.Frag} {H : Hp} : ∀ {vs : List V} {ds : List PyData} {i : Nat} {v : V}, DpAll K H vs ds → vs[i]? = some v → ∃ d, ds[i]? = some d ∧ Dp K H v d
  | _, _, _, _, .nil, h => by simp at h
  | _, _, 0, _, .cons h _, e => ⟨_, rfl, by have := Option.some.inj e; subst this; exact h⟩
  | _, _, i + 1, _, .cons _ a, e => dpa_at (i := i) a (by simpa using e)
theorem dpa_app {K : PySem.W.Frag} {H : Hp} : ∀ {vs ws : List V} {ds es : List PyData}, DpAll K H vs ds → DpAll K H ws es → DpAll K H (vs ++ ws) (ds ++ es)
  | _, _, _, _, .nil, b => b
  | _, _, _, _, .cons h a, b => .cons h (dpa_app a b)
theorem eqv_self {d : PyData} (h : SeqAt.shaped d = true) : PyData.eqv d d = true := SeqAt.eqv_refl d (SeqAt.canLay_of_shaped h)
/-! data that may be compared -/
theorem layAll : ∀ {ds : List PyData}, (∀ d ∈ ds, d.canLay0 = true) → PyData.canLayAll0 ds = true
  | [], _ => rfl
  | d :: ds, h => by
    rw [PyData.canLayAll0, h d List.mem_cons_self, layAll fun e he => h e (List.mem_cons_of_mem _ he)]; rfl
theorem depAll {n : Nat} : ∀ {ds : List PyData}, (∀ d ∈ ds, d.depth ≤ n) → PyData.depthAll ds ≤ n
  | [], _ => Nat.zero_le _
  | d :: ds, h => by
    have h1 := h d List.mem_cons_self
    have h2 := depAll (ds := ds) fun e he => h e (List.mem_cons_of_mem _ he)
    simp only [PyData.depthAll]
    omega
/-- plain data of at most this depth -/
def Flat (n : Nat) (d : PyData) : Prop := d.canLay0 = true ∧ d.depth ≤ n
theorem flat_list {n : Nat} {ds : List PyData} (h : ∀ d ∈ ds, Flat n d) : Flat (n + 1) (.list ds) :=
  ⟨by rw [PyData.canLay0]; exact layAll fun d hd => (h d hd).1, by have := depAll (n := n) fun d hd => (h d hd).2; simp only [PyData.depth]; omega⟩
theorem flat_tup {n : Nat} {ds : List PyData} (h : ∀ d ∈ ds, Flat n d) : Flat (n + 1) (.tuple ds) :=
  ⟨by rw [PyData.canLay0]; exact layAll fun d hd => (h d hd).1, by have := depAll (n := n) fun d hd => (h d hd).2; simp only [PyData.depth]; omega⟩
theorem flat_int (n : Nat) (i : Int) : Flat n (.int i) := ⟨rfl, by simp [PyData.depth]⟩
theorem flat_str (n : Nat) (x : Str) (h : (PyData.str x).canLay0 = true := by decide +kernel) : Flat n (.str x) := ⟨h, by simp [PyData.depth]⟩
theorem flat_bl (n : Nat) (b : Bool) : Flat n (.bool b) := ⟨rfl, by simp [PyData.depth]⟩
theorem flat_non (n : Nat) : Flat n .none := ⟨rfl, by simp [PyData.depth]⟩
theorem Flat.mono {n m : Nat} {d : PyData} (h : Flat n d) (hm : n ≤ m) : Flat m d := ⟨h.1, Nat.le_trans h.2 hm⟩
theorem Flat.sh {n : Nat} {d : PyData} (h : Flat n d) (hn : n ≤ 64) : SeqAt.shaped d = true := by
  show (d.canLay0 && decide (d.depth ≤ 64)) = true
  rw [Bool.and_eq_true]
  exact ⟨h.1, decide_eq_true (Nat.le_trans h.2 hn)⟩
theorem tyx_t {K : PySem.W.Frag} {H : Hp} {a : Addr} {xs : List V} (h : SqT K H a xs) : TyX K H (.ref a) (.type "tuple") := by
  rcases h with (h | ⟨o, h⟩) | ⟨o, its, n, h, hc, _⟩
  · exact .base (.tup h)
  · exact .fTuple h
  · exact .kTuple h hc
theorem tyx_l {K : PySem.W.Frag} {H : Hp} {a : Addr} {xs : List V} (h : SqL K H a xs) : TyX K H (.ref a) (.type "list") := by
  rcases h with (h | ⟨o, h⟩) | ⟨o, its, n, h, hc, _⟩
  · exact .base (.lst h)
  · exact .base (.frz h)
  · exact .kList h hc
theorem same_both {G H : Hp} {t : Addr} {x : HO} (e : Same G H) : Same (upd G t x) (upd H t x) := fun b o h => by
  by_cases hb : b = t
  · subst hb; rw [upd_same] at h ⊢; exact h
  · rw [upd_ne hb] at h ⊢; exact e b o h
theorem set_self {α : Type} : ∀ {l : List α} {i : Nat} {x : α}, l[i]? = some x → l.set i x = l
  | [], i, x, h => by simp at h
  | a :: l, 0, x, h => by
    have e : a = x := Option.some.inj h
    subst e
    rfl
  | a :: l, i + 1, x, h => by
    show a :: l.set i x = a :: l
    rw [set_self (by simpa using h)]
theorem ixn {n j : Nat} {i : Int} (hi : i = (j : Int)) (hj : j < n) : ixN n i = some j := by
  unfold ixN
  rw [if_pos (by omega), if_pos (by omega)]
  congr 1
  omega
/-! shifts and masks in place -/
section
variable {X : Cx}
theorem ip_shr : PIp X .RShift (fun x y H Q => ∃ (i : Int) (k : Nat), x = .int i ∧ y = .int (k : Int) ∧ Q (.int (i / 2 ^ k)) H) := by
  intro pins s σ H x y v u Q I r1 r2 h
  obtain ⟨i, k, e1, e2, q⟩ := h
  subst e1; subst e2
  obtain ⟨t, rfl⟩ := r1
  obtain ⟨t', rfl⟩ := r2
  refine irshift_int (Int.natCast_nonneg k) ⟨.int _, H, I.tok _, ⟨_, rfl⟩, ?_⟩
  rw [Int.toNat_natCast, Int.fdiv_eq_ediv_of_nonneg _ (Int.le_of_lt (Int.pow_pos (by decide)))]
  exact q
theorem ip_or : PIp X .BitOr (fun x y H Q => ∃ (r a : Int) (k : Nat), x = .int r ∧ y = .int (a * 2 ^ k) ∧ (0 ≤ a ∧ 0 ≤ r ∧ r < 2 ^ k) ∧ Q (.int (r + a * 2 ^ k)) H) := by
  intro pins s σ H x y v u Q I r1 r2 h
  obtain ⟨r, a, k, e1, e2, ⟨h0, h1, h2⟩, q⟩ := h
  subst e1; subst e2
  obtain ⟨t, rfl⟩ := r1
  obtain ⟨t', rfl⟩ := r2
  refine ior_int ⟨.int _, H, I.tok _, ⟨_, rfl⟩, ?_⟩
  have e : Builtin.bitOr r (a * 2 ^ k) = r + a * 2 ^ k := by
    have hp : (0 : Int) ≤ a * 2 ^ k := Int.mul_nonneg h0 (Int.le_of_lt (Int.pow_pos (by decide)))
    rw [bitOr_nn h1 hp, Nat.or_comm, ← bitOr_nn hp h1, or_low h0 h1 h2, Int.add_comm]
  rw [e]
  exact q
end
theorem bits_small : ∀ n : Nat, n < 128 → Builtin.Int.intBits (n : Int) ≤ 8 := by decide +kernel
/-- isinstance(e, c) of the error that a suite holds, its class known by the reading -/
theorem call_isE1 {X : Cx} {a D : Addr} {oe : Obj} {cls : Value} {d : Option Addr} {pn : List (Addr × Obj)} (C : ExcC X.K D) (hz : Zc cls d oe) (hf : ∃ vs, oe.data = .fields vs) :
    CallR (X.suite a ((a, oe) :: pn)) (.builtin "isinstance") (fun xs H Q => cls = .ref D ∧ d = none ∧ rIsE X.K D a xs H Q) := fun pins s σ H xs us Q I r h => by
  obtain ⟨h1, h2, h⟩ := h
  subst h1
  subst h2
  exact call_isE C hz hf pins s σ H xs us Q I r h
/-! slices -/
theorem sIx_le {n d : Nat} {i : Nat} : HT.sIx n d (some (i : Int)) = min i n := HT.sIx_nat n d i
theorem cut0n (xs : List V) (j : Nat) : cutV xs none (some (j : Int)) = xs.take j := by
  unfold cutV
  rw [sIx_le, HT.sIx_none, List.drop_zero, Nat.sub_zero]
  exact (List.take_eq_take_min).symm
theorem cutnn (xs : List V) (i j : Nat) : cutV xs (some (i : Int)) (some (j : Int)) = (xs.drop i).take (j - i) := by
  unfold cutV
  rw [sIx_le, sIx_le]
  by_cases hi : i ≤ xs.length
  · rw [Nat.min_eq_left hi]
    by_cases hj : j ≤ xs.length
    · rw [Nat.min_eq_left hj]
    · rw [Nat.min_eq_right (by omega), List.take_of_length_le (by rw [List.length_drop]; omega), List.take_of_length_le (by rw [List.length_drop]; omega)]
  · have e : min i xs.length = xs.length := by omega
    rw [e, List.drop_of_length_le (Nat.le_refl _), List.drop_of_length_le (show xs.length ≤ i by omega), List.take_nil, List.take_nil]
theorem cut_ints (ns : List Int) {i j : Nat} {a b : Int} (ha : a = i) (hb : b = j) : cutV (ns.map V.int) (some a) (some b) = ((ns.drop i).take (j - i)).map V.int := by
  rw [ha, hb, cutnn, ← List.map_drop, ← List.map_take]
theorem rep_ints (ns : List Int) (k : Nat) : (List.replicate k (ns.map V.int)).flatten = (List.replicate k ns).flatten.map V.int := by
  rw [List.map_flatten, List.map_replicate]
/-- [e for x in a slice], e changes nothing -/
theorem lc_cut {K : PySem.W.Frag} {wi : TI} {te : TE} {s : Nat} {σ : L2.St} {H : Hp} {Q : VK} (xs : List V) (f : V → V)
    (hwi : ∀ R : It → Hp → Prop, (∀ p, H p = none → R (Itl K p) (upd H p (.lst xs))) → wi σ H R) (hlen : xs.length ≤ 90000)
    (hw : ∀ x, wipe ((wipe σ [s]).set s (some x)) [s] = wipe σ [s])
    (he : ∀ (i : Nat) (x : V) (G : Hp) (Q' : VK), xs[i]? = some x → Same H G → Q' (f x) G → te ((wipe σ [s]).set s (some x)) G Q')
    (k : ∀ D H', H D = none → Same H H' → H' D = some (.lst (xs.map f)) → Q (.ref D) H') : tLc wi (gName s) tYes te [s] σ H Q := by
  refine hwi _ fun p hp D hD => ?_
  have nD : D ≠ p := fun z => by rw [z, upd_same] at hD; cases hD
  have hD0 : H D = none := by rw [upd_ne nD] at hD; exact hD
  refine lc_list (K := K) (a := p) (xs := xs) (fun i H' => Same H H' ∧ H' p = some (.lst xs) ∧ H' D = some (.lst ((xs.take i).map f)))
    ⟨(same_upd hp).trans (same_upd hD), by rw [upd_ne nD.symm, upd_same], by rw [upd_same]; rfl⟩ (fun i H' _ h => sql h.2.1) (fun i x G hx hG => ?_) (fun G hG => ?_)
  · refine ⟨hw x, ?_⟩
    refine he i x G _ hx hG.1 ⟨_, hG.2.2, szl (by rw [List.length_map, List.length_take]; omega), same_put hG.1 hD0, by rw [upd_ne nD.symm]; exact hG.2.1, ?_⟩
    rw [upd_same, take_more hx, List.map_append]
    rfl
  · refine k D G hD0 hG.1 ?_
    rw [List.take_length] at hG
    exact hG.2.2
/-- lists of ints as data -/
theorem dpa_ints {K : PySem.W.Frag} {H : Hp} : ∀ ns : List Int, DpAll K H (ns.map V.int) (ns.map PyData.int)
  | [] => .nil
  | n :: ns => .cons (.int n) (dpa_ints ns)
theorem dp_ints {K : PySem.W.Frag} {H : Hp} {a : Addr} {ns : List Int} (h : SqL K H a (ns.map V.int)) : Dp K H (.ref a) (.list (ns.map PyData.int)) := .lst h (dpa_ints ns)
theorem flat_ints (ns : List Int) : Flat 1 (.list (ns.map PyData.int)) := flat_list (n := 0) fun d hd => by
  obtain ⟨i, _, rfl⟩ := List.mem_map.mp hd
  exact flat_int _ _
theorem flat_tints (ns : List Int) : Flat 1 (.tuple (ns.map PyData.int)) := flat_tup (n := 0) fun d hd => by
  obtain ⟨i, _, rfl⟩ := List.mem_map.mp hd
  exact flat_int _ _
theorem eqvAll_ints : ∀ xs ys : List Int, PyData.eqvAll (xs.map .int) (ys.map .int) = decide (xs = ys)
  | [], [] => rfl
  | [], _ :: _ => rfl
  | _ :: _, [] => rfl
  | x :: xs, y :: ys => by
    show ((x == y) && PyData.eqvAll (xs.map .int) (ys.map .int)) = _
    rw [eqvAll_ints xs ys, Bool.eq_iff_iff]
    simp
theorem eqv_ints (xs ys : List Int) : PyData.eqv (.list (xs.map .int)) (.list (ys.map .int)) = decide (xs = ys) := eqvAll_ints xs ys
theorem eqv_tints (xs ys : List Int) : PyData.eqv (.tuple (xs.map .int)) (.tuple (ys.map .int)) = decide (xs = ys) := eqvAll_ints xs ys
/-- a def with defaults that lets nothing out -/
theorem okD {P : Program} {w : World} {K : PySem.W.Frag} {mg : Str → Option Value} {base : Heap} {x qual : Str} {params : Arguments} {body : List Stmt} {scope : Scope} {dvs : List V} {kws : List (Str × V)} {f : Addr} {fd : FuncData} {N ps : List Str} {k : Nat} {sp : Sp}
    (F : FunD K x qual params body scope dvs kws f fd) (S : FnScope N ps scope) (len : ∀ vs H Q E, sp vs H Q E → vs.length = ps.length)
    (hb : ∀ (cdv : Value) (A : Around) (outer : List Env) (s : Shared) (H : Hp) (vs : List V) (Q : VK) (E : XK), Room k (A.deeper (envOfC qual scope s.heap.objs.size f cdv)) → sp vs H Q E →
      ∃ t, PSs (cxOf CX0 P w K mg base N qual scope f cdv A outer s H E).nox body t ∧ t { nx := fun _ H' => Q .non H', rt := Q } (start N vs) H) : FnOk P w K mg base CX0 (k + 1) f fd ps sp :=
  F.ok S len fun cdv A outer s H vs Q E hr h => by
    obtain ⟨t, h1, q⟩ := hb cdv A outer s H vs Q E hr h
    exact ⟨t, h1.nox, q⟩
/-! what an expression gives, whatever stands besides -/
def EI (te : TE) (σ : L2.St) (H : Hp) (v : V) : Prop := ∀ G, Same H G → ∀ Q : VK, Q v G → te σ G Q
def EA (ta : TA) (σ : L2.St) (H : Hp) (vs : List V) : Prop := ∀ G, Same H G → ∀ Q : List V → Hp → Prop, Q vs G → ta σ G Q
/-- a list, new or old -/
def EL (te : TE) (σ : L2.St) (H : Hp) (xs : List V) : Prop := ∀ G, Same H G → ∀ Q : VK, (∀ p G', Same G G' → G' p = some (.lst xs) → Q (.ref p) G') → te σ G Q
section
variable {K : PySem.W.Frag} {σ : L2.St} {H : Hp} {ta tb te : TE} {x y z v : V} {xs ys : List V}
theorem ei_var {i : Nat} (h : σ[i]? = some (some v)) : EI (tVar i) σ H v := fun _ _ _ q => ⟨v, h, q⟩
theorem ei_c : EI (tC v) σ H v := fun _ _ _ q => q
theorem ei_op {r : R2} (ha : EI ta σ H x) (hb : EI tb σ H y) (hr : ∀ G, Same H G → ∀ Q : VK, Q z G → r x y G Q) : EI (tOp r ta tb) σ H z := fun G s Q q => ha G s _ (hb G s _ (hr G s Q q))
theorem ei_i0 {g : Int → Int → V} {i j : Int} (ha : EI ta σ H (.int i)) (hb : EI tb σ H (.int j)) : EI (tOp (rI0 g) ta tb) σ H (g i j) := ei_op ha hb fun _ _ _ q => ⟨i, j, rfl, rfl, q⟩
theorem ei_ic {C : Int → Int → Prop} {g : Int → Int → V} {i j : Int} (ha : EI ta σ H (.int i)) (hb : EI tb σ H (.int j)) (hc : C i j) : EI (tOp (rI C g) ta tb) σ H (g i j) := ei_op ha hb fun _ _ _ q => ⟨i, j, rfl, rfl, hc, q⟩
theorem ea_nil : EA tNil σ H [] := fun _ _ _ q => q
theorem ea_cons {tr : TA} {vs : List V} (h : EI ta σ H x) (g : EA tr σ H vs) : EA (tCons ta tr) σ H (x :: vs) := fun G s _ q => h G s _ (g G s _ q)
theorem ei_cb {r : List V → Hp → VK → Prop} {tr : TA} {vs : List V} (ha : EA tr σ H vs) (hr : ∀ G, Same H G → ∀ Q : VK, Q z G → r vs G Q) : EI (tCB r tr) σ H z := fun G s Q q => ha G s _ (hr G s Q q)
/-- len of a list, list(..) of a list or a tuple, as they are read -/
def rLen (K : PySem.W.Frag) : List V → Hp → VK → Prop := fun xs H Q => ∃ p ys, xs = [.ref p] ∧ (SqL K H p ys ∨ SqT K H p ys) ∧ Q (.int ys.length) H
def rLst (K : PySem.W.Frag) : List V → Hp → VK → Prop := fun xs H Q => ∃ p ys, xs = [.ref p] ∧ (SqL K H p ys ∨ SqT K H p ys) ∧ ∀ l, H l = none → Q (.ref l) (upd H l (.lst ys))
def rTup (K : PySem.W.Frag) : List V → Hp → VK → Prop := fun xs H Q => ∃ p ys, xs = [.ref p] ∧ ((SqL K H p ys ∧ ∀ l, H l = none → Q (.ref l) (upd H l (.tup ys))) ∨ (SqT K H p ys ∧ Q (.ref p) H))
theorem callK_tuple {X : Cx} (h : X.K = K) : CallR X (.type "tuple") (rTup K) := by subst h; exact call_tuple_of
theorem callK_list {X : Cx} (h : X.K = K) : CallR X (.type "list") (rLst K) := by subst h; exact call_list_of
theorem opK_catA {X : Cx} (h : X.K = K) : OpR X (binaryOp .Add) (rCatA K) := by subst h; exact op_catA
theorem ixK_list {X : Cx} (h : X.K = K) : IxR X (rIxL K) := by subst h; exact ix_list
theorem ixK_tup {X : Cx} (h : X.K = K) : IxR X (rIxT K) := by subst h; exact ix_tup
theorem pe_fldK {X : Cx} {e : Expr} {f : Str} {pos : Pos} {ta : TE} (h : X.K = K) (he : PE X e ta) (hb : attributeBase e f X.env (eval e X.env) = eval e X.env) : PE X (.Attribute e f pos) (tFld K ta f) := by subst h; exact pe_fld he hb
theorem callK_len {X : Cx} (h : X.K = K) : CallR X (.builtin "len") (rLen K) := by subst h; exact call_len_seq
theorem ei_lenL {i : Nat} {p : Addr} (h : σ[i]? = some (some (.ref p))) (e : SqL K H p xs) : EI (tCB (rLen K) (tCons (tVar i) tNil)) σ H (.int (xs.length : Int)) := ei_cb (ea_cons (ei_var h) ea_nil) fun _ s _ q => ⟨p, xs, rfl, .inl (s.seq e), q⟩
theorem ei_lenT {i : Nat} {p : Addr} (h : σ[i]? = some (some (.ref p))) (e : SqT K H p xs) : EI (tCB (rLen K) (tCons (tVar i) tNil)) σ H (.int (xs.length : Int)) := ei_cb (ea_cons (ei_var h) ea_nil) fun _ s _ q => ⟨p, xs, rfl, .inr (sqt_same s e), q⟩
theorem ei_fld {i : Nat} {p C dx : Addr} {fs : List (Str × V)} {f : Str} (h : σ[i]? = some (some (.ref p))) (hp : H p = some (.ins C dx fs)) (c : Cls K C) (n : NoAttr K C f) (l : fs.lookup f = some v) : EI (tFld K (tVar i) f) σ H v := fun _ s _ q => ⟨.ref p, h, p, C, dx, fs, v, rfl, s _ _ hp, c, n, l, q⟩
theorem ei_din {td : TE} {d : Addr} {kvs : List (Key × V)} {k : Key} (hy : EI te σ H (kV k)) (hd : EI td σ H (.ref d)) (e : H d = some (.dK kvs)) : EI (tDIn te td) σ H (.bl (valV kvs k).isSome) := fun G s _ q => hy G s _ (hd G s _ ⟨d, _, rfl, DGet.k (s _ _ e), q⟩)
theorem ei_dnotin {td : TE} {d : Addr} {kvs : List (Key × V)} {k : Key} (hy : EI te σ H (kV k)) (hd : EI td σ H (.ref d)) (e : H d = some (.dK kvs)) : EI (tDNotIn te td) σ H (.bl (!(valV kvs k).isSome)) := fun G s _ q => hy G s _ (hd G s _ ⟨d, _, rfl, DGet.k (s _ _ e), q⟩)
theorem ei_dget {td : TE} {d : Addr} {kvs : List (Key × V)} {k : Key} (hy : EI te σ H (kV k)) (hd : EI td σ H (.ref d)) (e : H d = some (.dK kvs)) (hv : valV kvs k = some v) : EI (tDGet td te) σ H v := fun G s _ q => hd G s _ (hy G s _ ⟨d, v, rfl, by rw [← hv]; exact DGet.k (s _ _ e), q⟩)
theorem ei_ixL {p : Addr} {j : Int} (ha : EI ta σ H (.ref p)) (hi : EI tb σ H (.int j)) (e : SqL K H p xs) (h : atI xs j = some v) : EI (tOp (rIxL K) ta tb) σ H v := ei_op ha hi fun _ s _ q => ⟨p, xs, j, v, rfl, rfl, s.seq e, h, q⟩
theorem ei_ixT {p : Addr} {j : Int} (ha : EI ta σ H (.ref p)) (hi : EI tb σ H (.int j)) (e : SqT K H p xs) (h : atI xs j = some v) : EI (tOp (rIxT K) ta tb) σ H v := ei_op ha hi fun _ s _ q => ⟨p, xs, j, v, rfl, rfl, sqt_same s e, h, q⟩
theorem ei_eq (ha : EI ta σ H x) (hb : EI tb σ H y) (h : scal x y = true) : EI (tOp rEq ta tb) σ H (.bl (decide (x = y))) := ei_op ha hb fun _ _ _ q => ⟨h, q⟩
theorem ei_ne (ha : EI ta σ H x) (hb : EI tb σ H y) (h : scal x y = true) : EI (tOp rNe ta tb) σ H (.bl (!decide (x = y))) := ei_op ha hb fun _ _ _ q => ⟨h, q⟩
/-- a test by its value -/
theorem tt_use {b : Bool} {Q : Bool → Hp → Prop} (h : EI te σ H (.bl b)) (k : Q b H) : tTest te σ H Q := h H (Same.refl _) _ ⟨b, rfl, k⟩
theorem tb_use {b : Bool} {Q : Bool → Hp → Prop} (h : EI te σ H (.bl b)) (k : Q b H) : tB te σ H Q := h H (Same.refl _) _ ⟨b, rfl, k⟩
theorem el_var {i : Nat} {p : Addr} (h : σ[i]? = some (some (.ref p))) (e : H p = some (.lst xs)) : EL (tVar i) σ H xs := fun G s _ q => ⟨.ref p, h, q p G (Same.refl _) (s _ _ e)⟩
/-- a new list -/
def EN (te : TE) (σ : L2.St) (H : Hp) (xs : List V) : Prop := ∀ G, Same H G → ∀ Q : VK, (∀ p G', G p = none → Same G G' → G' p = some (.lst xs) → Q (.ref p) G') → te σ G Q
theorem EN.el (h : EN te σ H xs) : EL te σ H xs := fun G s Q q => h G s Q fun p G' _ => q p G'
theorem en_lst {tr : TA} {vs : List V} (ha : EA tr σ H vs) (hl : vs.length ≤ 90000) : EN (tLst tr) σ H vs := fun G s _ q => ha G s _ ⟨sz (by omega), fun p hp => q p _ hp (same_upd hp) upd_same⟩
theorem en_cat (ha : EL ta σ H xs) (hb : EL tb σ H ys) (hl : xs.length + ys.length ≤ 90000) : EN (tOp rCat ta tb) σ H (xs ++ ys) := fun G s _ q =>
  ha G s _ fun p G1 s1 e1 => hb G1 (s.trans s1) _ fun p2 G2 s2 e2 => ⟨p, p2, xs, ys, rfl, rfl, s2 _ _ e1, e2, sz (by omega), fun p3 h3 => q p3 _ ((s1.trans s2).free h3) ((s1.trans s2).trans (same_upd h3)) upd_same⟩
theorem en_rep {k : Int} (ha : EL ta σ H xs) (hb : EI tb σ H (.int k)) (h1 : -1000000 ≤ k) (h2 : k ≤ 1000000) (hl : xs.length * k.toNat ≤ 90000) : EN (tOp rRep ta tb) σ H (List.replicate k.toNat xs).flatten := fun G s _ q =>
  ha G s _ fun p G1 s1 e1 => hb G1 (s.trans s1) _ ⟨p, k, xs, rfl, rfl, e1, by omega, by omega, sz (by omega), fun p3 h3 => q p3 _ (s1.free h3) (s1.trans (same_upd h3)) upd_same⟩
theorem el_lst {tr : TA} {vs : List V} (ha : EA tr σ H vs) (hl : vs.length ≤ 90000) : EL (tLst tr) σ H vs := (en_lst ha hl).el
theorem el_cat (ha : EL ta σ H xs) (hb : EL tb σ H ys) (hl : xs.length + ys.length ≤ 90000) : EL (tOp rCat ta tb) σ H (xs ++ ys) := (en_cat ha hb hl).el
theorem el_rep {k : Int} (ha : EL ta σ H xs) (hb : EI tb σ H (.int k)) (h1 : -1000000 ≤ k) (h2 : k ≤ 1000000) (hl : xs.length * k.toNat ≤ 90000) : EL (tOp rRep ta tb) σ H (List.replicate k.toNat xs).flatten := (en_rep ha hb h1 h2 hl).el
theorem el_cb {r : List V → Hp → VK → Prop} {tr : TA} {vs : List V} (ha : EA tr σ H vs) (hr : ∀ G, Same H G → ∀ Q : VK, (∀ p G', Same G G' → G' p = some (.lst xs) → Q (.ref p) G') → r vs G Q) : EL (tCB r tr) σ H xs := fun G s Q q => ha G s _ (hr G s Q q)
theorem el_call {sp : Sp} {dvs : List V} {E : XK} {tr : TA} {vs : List V} (ha : EA tr σ H vs) (hr : ∀ G, Same H G → ∀ Q : VK, (∀ p G', Same G G' → G' p = some (.lst xs) → Q (.ref p) G') → sp (vs ++ dvs) G Q E) : EL (tCall sp dvs E tr) σ H xs := fun G s Q q => ha G s _ (hr G s Q q)
theorem el_listL {i : Nat} {p : Addr} (h : σ[i]? = some (some (.ref p))) (e : SqL K H p xs) : EL (tCB (rLst K) (tCons (tVar i) tNil)) σ H xs := el_cb (ea_cons (ei_var h) ea_nil) fun _ s _ q => ⟨p, xs, rfl, .inl (s.seq e), fun l hl => q l _ (same_upd hl) upd_same⟩
theorem el_listT {i : Nat} {p : Addr} (h : σ[i]? = some (some (.ref p))) (e : SqT K H p xs) : EL (tCB (rLst K) (tCons (tVar i) tNil)) σ H xs := el_cb (ea_cons (ei_var h) ea_nil) fun _ s _ q => ⟨p, xs, rfl, .inr (sqt_same s e), fun l hl => q l _ (same_upd hl) upd_same⟩
/-- x = an expression that gives a list -/
theorem EL.use {Q : VK} (h : EL te σ H xs) (k : ∀ p H', Same H H' → H' p = some (.lst xs) → Q (.ref p) H') : te σ H Q := h H (Same.refl _) Q k
theorem EN.use {Q : VK} (h : EN te σ H xs) (k : ∀ p H', H p = none → Same H H' → H' p = some (.lst xs) → Q (.ref p) H') : te σ H Q := h H (Same.refl _) Q k
theorem EI.use {Q : VK} (h : EI te σ H v) (k : Q v H) : te σ H Q := h H (Same.refl _) Q k
end
/-- defaults: what is bound where keywords give the rest -/
theorem kb_one {K : PySem.W.Frag} {x qual : Str} {params : Arguments} {body : List Stmt} {scope : Scope} {dvs : List V} {f : Addr} {fd : FuncData} {ps : List Str} (F : FunD K x qual params body scope dvs [] f fd) (n : Nat) (ks : List Str) (hd : dvs ≠ [])
    (h : ∀ (T : Addr) (kV doc pm : Value) (an : Option Addr) (cdv ct : Value) (us ws its : List Value), us.length = n → ws.length = ks.length → its.length = dvs.length →
      ∃ k, bindArgs (PySem.W.fnOf x qual params body scope (.ref T) kV doc pm an cdv ct) ⟨us, ks.zip ws⟩ = seqItems? (.ref T) >>= k ∧ k (some its.toArray) = pure (ps.zip (us ++ ws))) :
    KBn K fd ps n ks (fun us ws => us ++ ws) (fun vs zs => vs ++ zs) := by
  obtain ⟨oc, od, dV, kV, doc, pm, an, cdv, ct, osl, rfl, lk, hcd, hD, hK⟩ := F.ex
  rcases hD with ⟨e, _⟩ | ⟨_, T, o, its, m, rfl, lT, oT, rT⟩
  · exact absurd e hd
  · refine ⟨fun s us ws X h1 h2 => BindsTo.of_looks fun M => ?_, fun r1 r2 => r1.append r2⟩
    obtain ⟨k, e1, e2⟩ := h T kV doc pm an cdv ct us ws its h1 h2 rT.length.symm
    rw [e1]
    exact looks_items X lT oT (.of_pure e2)
theorem andV_use {ta tb : TE} {σ : L2.St} {H : Hp} {Q : VK} {x y : Bool} (h1 : EI ta σ H (.bl x)) (h2 : x = true → ∀ Q' : VK, (∀ H', Same H H' → Q' (.bl y) H') → tb σ H Q') (k : ∀ H', Same H H' → Q (.bl (x && y)) H') : tAndV ta tb σ H Q := by
  refine h1 H (Same.refl _) _ ⟨x, rfl, ?_⟩
  cases x with
  | true => exact (if_pos rfl).mpr (h2 rfl _ k)
  | false => exact (if_neg Bool.false_ne_true).mpr (k H (Same.refl _))
/-- what is locked and let go stands as it stood -/
theorem unlock {H H' : Hp} {d : Addr} {od : Obj} {u : HO} (e : H d = some u) (s : Same (upd H d (.frz od u)) H') : Same H (upd H' d u) := fun b o h => by
  by_cases hb : b = d
  · subst hb
    rw [upd_same, ← e]
    exact h
  · rw [upd_ne hb]
    exact s b o (by rw [upd_ne hb]; exact h)
theorem take_filter {α : Type} {l : List α} {i : Nat} {x : α} (f : α → Bool) (h : l[i]? = some x) : (l.take (i + 1)).filter f = (l.take i).filter f ++ if f x then [x] else [] := by
  rw [take_more h, List.filter_append]
  cases e : f x <;> simp [e]
/-- [e for k in d if t] over the keys of a dict, t and e change nothing -/
theorem lc_keys {td te : TE} {tt : TT} {s : Nat} {σ : L2.St} {H : Hp} {Q : VK} (d : Addr) (kvs : List (Key × V)) (f : Key → Bool) (g : Key → V) (e : H d = some (.dK kvs)) (hlen : kvs.length ≤ 90000)
    (htd : ∀ od, EI td σ (upd H d (.frz od (.dK kvs))) (.ref d))
    (hw : ∀ x, wipe ((wipe σ [s]).set s (some x)) [s] = wipe σ [s])
    (ht : ∀ (od : Obj) (i : Nat) (k : Key) (v : V) (G : Hp) (Q' : Bool → Hp → Prop), kvs[i]? = some (k, v) → Same (upd H d (.frz od (.dK kvs))) G → Q' (f k) G → tt ((wipe σ [s]).set s (some (kV k))) G Q')
    (he : ∀ (od : Obj) (i : Nat) (k : Key) (v : V) (G : Hp) (Q' : VK), kvs[i]? = some (k, v) → Same (upd H d (.frz od (.dK kvs))) G → Q' (g k) G → te ((wipe σ [s]).set s (some (kV k))) G Q')
    (k : ∀ D H', H D = none → Same H H' → H' D = some (.lst ((kvs.filter fun kv => f kv.1).map fun kv => g kv.1)) → Q (.ref D) H') : tLockE (tLc (iKeys td) (gName s) tt te [s]) σ H Q := by
  refine ⟨d, _, e, trivial, fun od => htd od _ (Same.refl _) _ ⟨d, od, rfl, .inl ⟨kvs, upd_same, fun D hD => ?_⟩⟩⟩
  have nD : D ≠ d := fun z => by rw [z, upd_same] at hD; cases hD
  have hD0 : H D = none := by rw [upd_ne nD] at hD; exact hD
  refine lc_it walk_keys (fun i G => Same (upd H d (.frz od (.dK kvs))) G ∧ G D = some (.lst (((kvs.take i).filter fun kv => f kv.1).map fun kv => g kv.1)))
    ⟨same_upd hD, upd_same⟩ (fun i G _ h => h.1 _ _ upd_same) (fun i x G G' hi hG hy => ?_) (fun G hG => ?_)
  · obtain ⟨rfl, key, v, hkv, rfl⟩ := hy
    have hfl : ((kvs.take i).filter fun kv => f kv.1).length ≤ 90000 := Nat.le_trans (List.length_filter_le _ _) (by rw [List.length_take]; omega)
    refine ⟨hw _, ht od i key v _ _ hkv hG.1 ?_⟩
    have hts := take_filter (fun kv : Key × V => f kv.1) hkv
    cases hf : f key with
    | true =>
      refine (if_pos rfl).mpr (he od i key v _ _ hkv hG.1 ⟨_, hG.2, szl (by rw [List.length_map]; omega), same_put hG.1 hD, ?_⟩)
      rw [upd_same, hts, List.map_append]
      simp only [hf, if_true]
      rfl
    | false =>
      refine (if_neg Bool.false_ne_true).mpr ⟨hG.1, ?_⟩
      rw [hts]
      simp only [hf, Bool.false_eq_true, if_false, List.append_nil]
      exact hG.2
  · rw [List.take_length] at hG
    refine ⟨hG.1 _ _ upd_same, k D _ hD0 (unlock e hG.1) ?_⟩
    rw [upd_ne nD]
    exact hG.2
theorem put_fresh {kvs : List (Key × V)} {k : Key} {v : V} (h : ∀ kv ∈ kvs, kv.1 ≠ k) : putK kvs k v = kvs ++ [(k, v)] := by
  unfold putK
  rw [if_neg]
  intro z
  obtain ⟨kv, hm, hk⟩ := List.any_eq_true.mp z
  exact h kv hm (of_decide_eq_true hk)
theorem nd_ne {α β : Type} {l : List (α × β)} {i : Nat} {x : α × β} (nd : (l.map (·.1)).Nodup) (h : l[i]? = some x) : ∀ y ∈ l.take i, y.1 ≠ x.1 := fun y hy z => by
  obtain ⟨j, hj, rfl⟩ := List.getElem_of_mem hy
  rw [List.length_take] at hj
  rw [List.getElem_take] at z
  obtain ⟨hi, rfl⟩ := List.getElem?_eq_some_iff.mp h
  have e1 : (l.map (·.1))[j]? = some l[i].1 := by rw [List.getElem?_map, List.getElem?_eq_getElem (by omega), ← z]; rfl
  have e2 : (l.map (·.1))[i]? = some l[i].1 := by rw [List.getElem?_map, List.getElem?_eq_getElem hi]; rfl
  have := nd_ix nd e1 e2
  omega
/-- {k: e for k in d if t} over the keys of a dict -/
theorem dc_keys {td tv : TE} {tt : TT} {s : Nat} {σ : L2.St} {H : Hp} {Q : VK} (d : Addr) (kvs : List (Key × V)) (f : Key → Bool) (g : Key × V → V) (e : H d = some (.dK kvs)) (hlen : kvs.length ≤ 90000) (nd : (kvs.map (·.1)).Nodup)
    (htd : ∀ od, EI td σ (upd H d (.frz od (.dK kvs))) (.ref d))
    (hw : ∀ x, wipe ((wipe σ [s]).set s (some x)) [s] = wipe σ [s])
    (ht : ∀ (od : Obj) (i : Nat) (k : Key) (v : V) (G : Hp) (Q' : Bool → Hp → Prop), kvs[i]? = some (k, v) → Same (upd H d (.frz od (.dK kvs))) G → Q' (f k) G → tt ((wipe σ [s]).set s (some (kV k))) G Q')
    (he : ∀ (od : Obj) (i : Nat) (k : Key) (v : V) (G : Hp) (Q' : VK), kvs[i]? = some (k, v) → f k = true → Same (upd H d (.frz od (.dK kvs))) G → Q' (g (k, v)) G → tv ((wipe σ [s]).set s (some (kV k))) G Q')
    (hn : ∀ i, (wipe σ [s]).length = i → s < i)
    (k : ∀ D H', H D = none → Same H H' → H' D = some (.dK ((kvs.filter fun kv => f kv.1).map fun kv => (kv.1, g kv))) → Q (.ref D) H') : tLockE (tDc (iKeys td) (gName s) tt (tVar s) tv [s]) σ H Q := by
  have hs : s < (wipe σ [s]).length := hn _ rfl
  refine ⟨d, _, e, trivial, fun od => htd od _ (Same.refl _) _ ⟨d, od, rfl, .inl ⟨kvs, upd_same, fun D hD => ?_⟩⟩⟩
  have nD : D ≠ d := fun z => by rw [z, upd_same] at hD; cases hD
  have hD0 : H D = none := by rw [upd_ne nD] at hD; exact hD
  let Pv : Nat → Hp → Prop := fun i G => Same (upd H d (.frz od (.dK kvs))) G ∧ G D = some (.dK (((kvs.take i).filter fun kv => f kv.1).map fun kv => (kv.1, g kv)))
  have step : ∀ i x G G', i < kvs.length → Pv i G → (G' = G ∧ ∃ k v, kvs[i]? = some (k, v) ∧ x = kV k) → gName s x (wipe σ [s]) G' fun σ2 H2 => wipe σ2 [s] = wipe σ [s] ∧ tt σ2 H2 fun b H3 =>
      if b = true then tVar s σ2 H3 fun y H4 => tv σ2 H4 fun z H5 => ∃ kvs' k', y = kV k' ∧ H5 D = some (.dK kvs') ∧ kvs'.length < sizeLine ∧ Pv (i + 1) (upd H5 D (.dK (putK kvs' k' z))) else Pv (i + 1) H3 := fun i x G G' hi hG hy => by
    obtain ⟨rfl, key, v, hkv, rfl⟩ := hy
    have hfl : ((kvs.take i).filter fun kv => f kv.1).length ≤ 90000 := Nat.le_trans (List.length_filter_le _ _) (by rw [List.length_take]; omega)
    refine ⟨hw _, ht od i key v _ _ hkv hG.1 ?_⟩
    have hts := take_filter (fun kv : Key × V => f kv.1) hkv
    cases hf : f key with
    | true =>
      refine (if_pos rfl).mpr ⟨kV key, by rw [List.getElem?_set_self hs], he od i key v _ _ hkv hf hG.1 ⟨_, key, rfl, hG.2, szl (by rw [List.length_map]; omega), same_put hG.1 hD, ?_⟩⟩
      rw [upd_same, hts, List.map_append, put_fresh]
      · simp only [hf, if_true]
        rfl
      · intro kv hm
        obtain ⟨y, hy, rfl⟩ := List.mem_map.mp hm
        exact nd_ne nd hkv y (List.mem_filter.mp hy).1
    | false =>
      refine (if_neg Bool.false_ne_true).mpr ⟨hG.1, ?_⟩
      rw [hts]
      simp only [hf, Bool.false_eq_true, if_false, List.append_nil]
      exact hG.2
  refine ⟨fun i m G => m = kvs.length - i ∧ i ≤ kvs.length ∧ Pv i G, ⟨kvs.length, by simp, Nat.zero_le _, same_upd hD, upd_same⟩, ?_⟩
  rintro i m G ⟨rfl, hi, hP⟩
  by_cases hlt : i < kvs.length
  · exact .inr ⟨⟨hP.1 _ _ upd_same, hlt⟩, Pv (i + 1), fun G' p' => ⟨kvs.length - (i + 1), by omega, rfl, hlt, p'⟩, fun x G' y => step i x G G' hlt hP y⟩
  · have ei : i = kvs.length := by omega
    subst ei
    obtain ⟨h1, h2⟩ := hP
    rw [List.take_length] at h2
    refine .inl ⟨⟨h1 _ _ upd_same, Nat.le_refl _⟩, h1 _ _ upd_same, k D _ hD0 (unlock e h1) ?_⟩
    rw [upd_ne nD]
    exact h2
/-! the same within a comprehension -/
section
variable {K : PySem.W.Frag} {X : Cx} {pos : Pos}
theorem pgK_tup {es : List Expr} {k : Nat} {t : TGs} {n : Nat} (hK : X.K = K) (hc : X.calm = true) (h : PGs X es t)
    (hn : (assignEach es X.env).length = n := by rfl) (hst : (assignEach es X.env).findIdx? (·.1) = none := by rfl) : PG X (.Tuple es k pos) (gTup K n t) := by subst hK; exact pg_tup hc h hn hst
theorem opK_in (h : X.K = K) : OpR X (compareOp .In) (rIn K false) := by subst h; exact op_in_seq
theorem opK_notIn (h : X.K = K) : OpR X (compareOp .NotIn) (rIn K true) := by subst h; exact op_notIn_seq
theorem opK_eqD (h : X.K = K) (hu : X.A.units + 64 < cLine) : OpR X (compareOp .Eq) (rEqD K) := by subst h; exact op_eqD hu
theorem opK_neD (h : X.K = K) (hu : X.A.units + 64 < cLine) : OpR X (compareOp .NotEq) (rNeD K) := by subst h; exact op_neD hu
theorem callK_isi (h : X.K = K) : CallR X (.builtin "isinstance") (rIsi K) := by subst h; exact call_isi
theorem slK_tup (h : X.K = K) : SlR X (rSlT K) := by subst h; exact sl_tup
end
end My
local macro_rules | `(tactic| walk_at "go") => `(tactic| try dsimp only [L2.gName, L2.tSeq, L2.tAsg, L2.tNext, L2.tDrop])
namespace My
open PySem PySem.Spec PyProof.Rows L2
def topS (i : Nat) : Stmt := PySem.Challenge.pw_majordomo_k05_rows_that_hold_no_value.main.body.getD i (.Pass ⟨0, 0, 0, 0⟩)
abbrev s_has_plain_characters : Stmt := (topS 10)
theorem sc_has_plain_characters : FnScope ["text", "character", "code"] ["text"] (defScope s_has_plain_characters) := ⟨rfl, rfl, rfl, by decide +kernel, rfl, by decide +kernel, by decide +kernel⟩
abbrev s_put_number : Stmt := (topS 13)
theorem sc_put_number : FnScope ["number", "row"] ["number"] (defScope s_put_number) := ⟨rfl, rfl, rfl, by decide +kernel, rfl, by decide +kernel, by decide +kernel⟩
abbrev s_take_number : Stmt := (topS 14)
theorem sc_take_number : FnScope ["row", "index", "number", "shift", "at", "byte"] ["row", "index"] (defScope s_take_number) := ⟨rfl, rfl, rfl, by decide +kernel, rfl, by decide +kernel, by decide +kernel⟩
abbrev s_is_value : Stmt := (topS 28)
theorem sc_is_value : FnScope ["value"] ["value"] (defScope s_is_value) := ⟨rfl, rfl, rfl, by decide +kernel, rfl, by decide +kernel, by decide +kernel⟩
abbrev s__is_value_within : Stmt := (topS 29)
theorem sc__is_value_within : FnScope ["value", "depth", "member"] ["value", "depth"] (defScope s__is_value_within) := ⟨rfl, rfl, rfl, by decide +kernel, rfl, by decide +kernel, by decide +kernel⟩
abbrev s_pack : Stmt := (topS 30)
theorem sc_pack : FnScope ["value"] ["value"] (defScope s_pack) := ⟨rfl, rfl, rfl, by decide +kernel, rfl, by decide +kernel, by decide +kernel⟩
abbrev s__packed : Stmt := (topS 31)
theorem sc__packed : FnScope ["value", "row", "member", "character"] ["value"] (defScope s__packed) := ⟨rfl, rfl, rfl, by decide +kernel, rfl, by decide +kernel, by decide +kernel⟩
abbrev s_unpack : Stmt := (topS 32)
theorem sc_unpack : FnScope ["row", "value", "index"] ["row"] (defScope s_unpack) := ⟨rfl, rfl, rfl, by decide +kernel, rfl, by decide +kernel, by decide +kernel⟩
abbrev s__take_value : Stmt := (topS 33)
theorem sc__take_value : FnScope ["row", "index", "depth", "tag", "number", "after"] ["row", "index", "depth"] (defScope s__take_value) := ⟨rfl, rfl, rfl, by decide +kernel, rfl, by decide +kernel, by decide +kernel⟩
abbrev s__checked_integer : Stmt := (topS 34)
theorem sc__checked_integer : FnScope ["number"] ["number"] (defScope s__checked_integer) := ⟨rfl, rfl, rfl, by decide +kernel, rfl, by decide +kernel, by decide +kernel⟩
abbrev s__take_text : Stmt := (topS 35)
theorem sc__take_text : FnScope ["row", "index", "length", "characters", "at", "byte"] ["row", "index", "length"] (defScope s__take_text) := ⟨rfl, rfl, rfl, by decide +kernel, rfl, by decide +kernel, by decide +kernel⟩
abbrev s__take_members : Stmt := (topS 36)
theorem sc__take_members : FnScope ["row", "index", "length", "depth", "members", "_", "member"] ["row", "index", "length", "depth"] (defScope s__take_members) := ⟨rfl, rfl, rfl, by decide +kernel, rfl, by decide +kernel, by decide +kernel⟩
abbrev s__law_draws : Stmt := (topS 39)
theorem sc__law_draws : FnScope ["script", "many", "draws", "mixed", "k", "cell", "rest", "turn"] ["script", "many"] (defScope s__law_draws) := ⟨rfl, rfl, rfl, by decide +kernel, rfl, by decide +kernel, by decide +kernel⟩
abbrev s__law_char : Stmt := (topS 40)
theorem sc__law_char : FnScope ["draw", "chars"] ["draw"] (defScope s__law_char) := ⟨rfl, rfl, rfl, by decide +kernel, rfl, by decide +kernel, by decide +kernel⟩
abbrev s__law_integer : Stmt := (topS 41)
theorem sc__law_integer : FnScope ["draws", "number", "k"] ["draws"] (defScope s__law_integer) := ⟨rfl, rfl, rfl, by decide +kernel, rfl, by decide +kernel, by decide +kernel⟩
abbrev s__law_leaf : Stmt := (topS 42)
theorem sc__law_leaf : FnScope ["draws", "kind", "word", "draw"] ["draws"] (defScope s__law_leaf) := ⟨rfl, rfl, rfl, by decide +kernel, rfl, by decide +kernel, by decide +kernel⟩
abbrev s__law_value : Stmt := (topS 43)
theorem sc__law_value : FnScope ["draws", "value", "k", "part", "leaf", "turn"] ["draws"] (defScope s__law_value) := ⟨rfl, rfl, rfl, by decide +kernel, rfl, by decide +kernel, by decide +kernel⟩
abbrev s__law_number : Stmt := (topS 45)
theorem sc__law_number : FnScope ["number", "row", "rest", "k"] ["number"] (defScope s__law_number) := ⟨rfl, rfl, rfl, by decide +kernel, rfl, by decide +kernel, by decide +kernel⟩
abbrev s__law_packed : Stmt := (topS 46)
theorem sc__law_packed : FnScope ["value", "row", "member", "char"] ["value"] (defScope s__law_packed) := ⟨rfl, rfl, rfl, by decide +kernel, rfl, by decide +kernel, by decide +kernel⟩
abbrev s__law_take_number : Stmt := (topS 47)
theorem sc__law_take_number : FnScope ["row", "index", "number", "scale", "count", "byte"] ["row", "index"] (defScope s__law_take_number) := ⟨rfl, rfl, rfl, by decide +kernel, rfl, by decide +kernel, by decide +kernel⟩
abbrev s__law_take_text : Stmt := (topS 48)
theorem sc__law_take_text : FnScope ["row", "index", "length", "at"] ["row", "index", "length"] (defScope s__law_take_text) := ⟨rfl, rfl, rfl, by decide +kernel, rfl, by decide +kernel, by decide +kernel⟩
abbrev s__law_read : Stmt := (topS 49)
theorem sc__law_read : FnScope ["row", "index", "depth", "tag", "found", "place", "k", "member"] ["row", "index", "depth"] (defScope s__law_read) := ⟨rfl, rfl, rfl, by decide +kernel, rfl, by decide +kernel, by decide +kernel⟩
abbrev s__law_limit : Stmt := (topS 50)
theorem sc__law_limit : FnScope ["negative", "limit", "k"] ["negative"] (defScope s__law_limit) := ⟨rfl, rfl, rfl, by decide +kernel, rfl, by decide +kernel, by decide +kernel⟩
abbrev s__law_right : Stmt := (topS 51)
theorem sc__law_right : FnScope ["row", "expected", "value", "e"] ["row"] (defScope s__law_right) := ⟨rfl, rfl, rfl, by decide +kernel, rfl, by decide +kernel, by decide +kernel⟩
abbrev s__law_replaced : Stmt := (topS 52)
theorem sc__law_replaced : FnScope ["row", "draws", "changed", "k", "at"] ["row", "draws"] (defScope s__law_replaced) := ⟨rfl, rfl, rfl, by decide +kernel, rfl, by decide +kernel, by decide +kernel⟩
abbrev s_law : Stmt := (topS 53)
theorem sc_law : FnScope ["script", "draws", "value", "row", "rows", "size", "k", "part", "one", "draw"] ["script"] (defScope s_law) := ⟨rfl, rfl, rfl, by decide +kernel, rfl, by decide +kernel, by decide +kernel⟩

structure TX (K : PySem.W.Frag) (mg : Str → Option Value) where
  a_MajordomoError : Addr
  g_MajordomoError : mg "MajordomoError" = some (.ref a_MajordomoError)
  x_MajordomoError : PySem.W.excIn K a_MajordomoError [.type "ValueError", .type "Exception", .type "BaseException", .type "object"] "ValueError.__new__" = true
  k_MajordomoError : PySem.W.keepIn K (.ref a_MajordomoError) = true
  s_MajordomoError : PySem.W.subIn K (.ref a_MajordomoError) (.type "BaseException") = some true
  t_MajordomoError : PySem.W.typeIn K (.ref a_MajordomoError) = some (.type "type")
  a_CodecError : Addr
  g_CodecError : mg "CodecError" = some (.ref a_CodecError)
  x_CodecError : PySem.W.excIn K a_CodecError [.type "ValueError", .type "Exception", .type "BaseException", .type "object"] "ValueError.__new__" = true
  k_CodecError : PySem.W.keepIn K (.ref a_CodecError) = true
  s_CodecError : PySem.W.subIn K (.ref a_CodecError) (.type "BaseException") = some true
  t_CodecError : PySem.W.typeIn K (.ref a_CodecError) = some (.type "type")
  a_Truncated : Addr
  g_Truncated : mg "Truncated" = some (.ref a_Truncated)
  x_Truncated : PySem.W.excIn K a_Truncated [.type "ValueError", .type "Exception", .type "BaseException", .type "object"] "ValueError.__new__" = true
  k_Truncated : PySem.W.keepIn K (.ref a_Truncated) = true
  s_Truncated : PySem.W.subIn K (.ref a_Truncated) (.type "BaseException") = some true
  t_Truncated : PySem.W.typeIn K (.ref a_Truncated) = some (.type "type")
  ee_Truncated : PySem.W.exmOne K (.ref a_Truncated) (.ref a_Truncated) = some true
  a_Malformed : Addr
  g_Malformed : mg "Malformed" = some (.ref a_Malformed)
  x_Malformed : PySem.W.excIn K a_Malformed [.type "ValueError", .type "Exception", .type "BaseException", .type "object"] "ValueError.__new__" = true
  k_Malformed : PySem.W.keepIn K (.ref a_Malformed) = true
  s_Malformed : PySem.W.subIn K (.ref a_Malformed) (.type "BaseException") = some true
  t_Malformed : PySem.W.typeIn K (.ref a_Malformed) = some (.type "type")
  ee_Malformed : PySem.W.exmOne K (.ref a_Malformed) (.ref a_Malformed) = some true
  a_NotAValue : Addr
  g_NotAValue : mg "NotAValue" = some (.ref a_NotAValue)
  x_NotAValue : PySem.W.excIn K a_NotAValue [.type "ValueError", .type "Exception", .type "BaseException", .type "object"] "ValueError.__new__" = true
  k_NotAValue : PySem.W.keepIn K (.ref a_NotAValue) = true
  s_NotAValue : PySem.W.subIn K (.ref a_NotAValue) (.type "BaseException") = some true
  t_NotAValue : PySem.W.typeIn K (.ref a_NotAValue) = some (.type "type")
  em_Truncated_Truncated : PySem.W.exmOne K (.ref a_Truncated) (.ref a_Truncated) = some true
  em_Truncated_Malformed : PySem.W.exmOne K (.ref a_Malformed) (.ref a_Truncated) = some false
  em_Malformed_Malformed : PySem.W.exmOne K (.ref a_Malformed) (.ref a_Malformed) = some true
  X_Truncated : ExcC K a_Truncated
  y_Truncated_CodecError : PySem.W.kitOne K (.ref a_Truncated) (.ref a_CodecError) = some true
  y_Truncated_Malformed : PySem.W.kitOne K (.ref a_Truncated) (.ref a_Malformed) = some false
  X_Malformed : ExcC K a_Malformed
  y_Malformed_CodecError : PySem.W.kitOne K (.ref a_Malformed) (.ref a_CodecError) = some true
  a_has_plain_characters : Addr
  d_has_plain_characters : FuncData
  F_has_plain_characters : Fun K "has_plain_characters" "has_plain_characters" s_has_plain_characters a_has_plain_characters d_has_plain_characters
  b_has_plain_characters : Binds K d_has_plain_characters ["text"] []
  g_has_plain_characters : mg "has_plain_characters" = some (.ref a_has_plain_characters)
  a_put_number : Addr
  d_put_number : FuncData
  F_put_number : Fun K "put_number" "put_number" s_put_number a_put_number d_put_number
  b_put_number : Binds K d_put_number ["number"] []
  g_put_number : mg "put_number" = some (.ref a_put_number)
  a_take_number : Addr
  d_take_number : FuncData
  F_take_number : Fun K "take_number" "take_number" s_take_number a_take_number d_take_number
  b_take_number : Binds K d_take_number ["row", "index"] []
  g_take_number : mg "take_number" = some (.ref a_take_number)
  a_is_value : Addr
  d_is_value : FuncData
  F_is_value : Fun K "is_value" "is_value" s_is_value a_is_value d_is_value
  b_is_value : Binds K d_is_value ["value"] []
  g_is_value : mg "is_value" = some (.ref a_is_value)
  a__is_value_within : Addr
  d__is_value_within : FuncData
  F__is_value_within : Fun K "_is_value_within" "_is_value_within" s__is_value_within a__is_value_within d__is_value_within
  b__is_value_within : Binds K d__is_value_within ["value", "depth"] []
  g__is_value_within : mg "_is_value_within" = some (.ref a__is_value_within)
  a_pack : Addr
  d_pack : FuncData
  F_pack : Fun K "pack" "pack" s_pack a_pack d_pack
  b_pack : Binds K d_pack ["value"] []
  g_pack : mg "pack" = some (.ref a_pack)
  a__packed : Addr
  d__packed : FuncData
  F__packed : Fun K "_packed" "_packed" s__packed a__packed d__packed
  b__packed : Binds K d__packed ["value"] []
  g__packed : mg "_packed" = some (.ref a__packed)
  a_unpack : Addr
  d_unpack : FuncData
  F_unpack : Fun K "unpack" "unpack" s_unpack a_unpack d_unpack
  b_unpack : Binds K d_unpack ["row"] []
  g_unpack : mg "unpack" = some (.ref a_unpack)
  a__take_value : Addr
  d__take_value : FuncData
  F__take_value : Fun K "_take_value" "_take_value" s__take_value a__take_value d__take_value
  b__take_value : Binds K d__take_value ["row", "index", "depth"] []
  g__take_value : mg "_take_value" = some (.ref a__take_value)
  a__checked_integer : Addr
  d__checked_integer : FuncData
  F__checked_integer : Fun K "_checked_integer" "_checked_integer" s__checked_integer a__checked_integer d__checked_integer
  b__checked_integer : Binds K d__checked_integer ["number"] []
  g__checked_integer : mg "_checked_integer" = some (.ref a__checked_integer)
  a__take_text : Addr
  d__take_text : FuncData
  F__take_text : Fun K "_take_text" "_take_text" s__take_text a__take_text d__take_text
  b__take_text : Binds K d__take_text ["row", "index", "length"] []
  g__take_text : mg "_take_text" = some (.ref a__take_text)
  a__take_members : Addr
  d__take_members : FuncData
  F__take_members : Fun K "_take_members" "_take_members" s__take_members a__take_members d__take_members
  b__take_members : Binds K d__take_members ["row", "index", "length", "depth"] []
  g__take_members : mg "_take_members" = some (.ref a__take_members)
  a__law_draws : Addr
  d__law_draws : FuncData
  F__law_draws : Fun K "_law_draws" "_law_draws" s__law_draws a__law_draws d__law_draws
  b__law_draws : Binds K d__law_draws ["script", "many"] []
  g__law_draws : mg "_law_draws" = some (.ref a__law_draws)
  a__law_char : Addr
  d__law_char : FuncData
  F__law_char : Fun K "_law_char" "_law_char" s__law_char a__law_char d__law_char
  b__law_char : Binds K d__law_char ["draw"] []
  g__law_char : mg "_law_char" = some (.ref a__law_char)
  a__law_integer : Addr
  d__law_integer : FuncData
  F__law_integer : Fun K "_law_integer" "_law_integer" s__law_integer a__law_integer d__law_integer
  b__law_integer : Binds K d__law_integer ["draws"] []
  g__law_integer : mg "_law_integer" = some (.ref a__law_integer)
  a__law_leaf : Addr
  d__law_leaf : FuncData
  F__law_leaf : Fun K "_law_leaf" "_law_leaf" s__law_leaf a__law_leaf d__law_leaf
  b__law_leaf : Binds K d__law_leaf ["draws"] []
  g__law_leaf : mg "_law_leaf" = some (.ref a__law_leaf)
  a__law_value : Addr
  d__law_value : FuncData
  F__law_value : Fun K "_law_value" "_law_value" s__law_value a__law_value d__law_value
  b__law_value : Binds K d__law_value ["draws"] []
  g__law_value : mg "_law_value" = some (.ref a__law_value)
  a__law_number : Addr
  d__law_number : FuncData
  F__law_number : Fun K "_law_number" "_law_number" s__law_number a__law_number d__law_number
  b__law_number : Binds K d__law_number ["number"] []
  g__law_number : mg "_law_number" = some (.ref a__law_number)
  a__law_packed : Addr
  d__law_packed : FuncData
  F__law_packed : Fun K "_law_packed" "_law_packed" s__law_packed a__law_packed d__law_packed
  b__law_packed : Binds K d__law_packed ["value"] []
  g__law_packed : mg "_law_packed" = some (.ref a__law_packed)
  a__law_take_number : Addr
  d__law_take_number : FuncData
  F__law_take_number : Fun K "_law_take_number" "_law_take_number" s__law_take_number a__law_take_number d__law_take_number
  b__law_take_number : Binds K d__law_take_number ["row", "index"] []
  g__law_take_number : mg "_law_take_number" = some (.ref a__law_take_number)
  a__law_take_text : Addr
  d__law_take_text : FuncData
  F__law_take_text : Fun K "_law_take_text" "_law_take_text" s__law_take_text a__law_take_text d__law_take_text
  b__law_take_text : Binds K d__law_take_text ["row", "index", "length"] []
  g__law_take_text : mg "_law_take_text" = some (.ref a__law_take_text)
  a__law_read : Addr
  d__law_read : FuncData
  F__law_read : Fun K "_law_read" "_law_read" s__law_read a__law_read d__law_read
  b__law_read : Binds K d__law_read ["row", "index", "depth"] []
  g__law_read : mg "_law_read" = some (.ref a__law_read)
  a__law_limit : Addr
  d__law_limit : FuncData
  F__law_limit : Fun K "_law_limit" "_law_limit" s__law_limit a__law_limit d__law_limit
  b__law_limit : Binds K d__law_limit ["negative"] []
  g__law_limit : mg "_law_limit" = some (.ref a__law_limit)
  a__law_right : Addr
  d__law_right : FuncData
  F__law_right : Fun K "_law_right" "_law_right" s__law_right a__law_right d__law_right
  b__law_right : Binds K d__law_right ["row"] []
  g__law_right : mg "_law_right" = some (.ref a__law_right)
  a__law_replaced : Addr
  d__law_replaced : FuncData
  F__law_replaced : Fun K "_law_replaced" "_law_replaced" s__law_replaced a__law_replaced d__law_replaced
  b__law_replaced : Binds K d__law_replaced ["row", "draws"] []
  g__law_replaced : mg "_law_replaced" = some (.ref a__law_replaced)
  a_law : Addr
  d_law : FuncData
  F_law : Fun K "law" "law" s_law a_law d_law
  b_law : Binds K d_law ["script"] []
  g_law : mg "law" = some (.ref a_law)
  t_SPACE : Tok
  c_SPACE : mg "SPACE" = some (.int 32 t_SPACE)
  t_PERCENT : Tok
  c_PERCENT : mg "PERCENT" = some (.int 37 t_PERCENT)
  t_TILDE : Tok
  c_TILDE : mg "TILDE" = some (.int 126 t_TILDE)
  t_MOST_BYTES : Tok
  c_MOST_BYTES : mg "MOST_BYTES" = some (.int 500 t_MOST_BYTES)
  t_MOST_BITS : Tok
  c_MOST_BITS : mg "MOST_BITS" = some (.int 3000 t_MOST_BITS)
  t_MOST_LENGTH : Tok
  c_MOST_LENGTH : mg "MOST_LENGTH" = some (.int 60000 t_MOST_LENGTH)
  t_MOST_DEPTH : Tok
  c_MOST_DEPTH : mg "MOST_DEPTH" = some (.int 20 t_MOST_DEPTH)
  t_FALSE_TAG : Tok
  c_FALSE_TAG : mg "FALSE_TAG" = some (.int 1 t_FALSE_TAG)
  t_TRUE_TAG : Tok
  c_TRUE_TAG : mg "TRUE_TAG" = some (.int 2 t_TRUE_TAG)
  t_NATURAL_TAG : Tok
  c_NATURAL_TAG : mg "NATURAL_TAG" = some (.int 3 t_NATURAL_TAG)
  t_NEGATIVE_TAG : Tok
  c_NEGATIVE_TAG : mg "NEGATIVE_TAG" = some (.int 4 t_NEGATIVE_TAG)
  t_TEXT_TAG : Tok
  c_TEXT_TAG : mg "TEXT_TAG" = some (.int 5 t_TEXT_TAG)
  t_TUPLE_TAG : Tok
  c_TUPLE_TAG : mg "TUPLE_TAG" = some (.int 6 t_TUPLE_TAG)
  ca_CONSTANTS : Addr
  c_CONSTANTS : mg "CONSTANTS" = some (.ref ca_CONSTANTS)
  q_CONSTANTS : ∀ H, SqT K H ca_CONSTANTS [.non, (.bl false), (.bl true)]
  t_CHARACTERS : Tok
  c_CHARACTERS : mg "CHARACTERS" = some (.str " !\"#$ &'()*+,-./0123456789:;<=>?@ABCDEFGHIJKLMNOPQRSTUVWXYZ[\\]^_`abcdefghijklmnopqrstuvwxyz{|}~" t_CHARACTERS)
  t_PERCENT_BYTE : Tok
  c_PERCENT_BYTE : mg "PERCENT_BYTE" = some (.int 5 t_PERCENT_BYTE)
  n_range : mg "range" = none
  n_min : mg "min" = none
  n_len : mg "len" = none
  n_ord : mg "ord" = none
  n_isinstance : mg "isinstance" = none
  n_bool : mg "bool" = none
  n_int : mg "int" = none
  n_str : mg "str" = none
  n_tuple : mg "tuple" = none
  n_abs : mg "abs" = none
  n_list : mg "list" = none

theorem or_use {ta tb : TT} {σ : L2.St} {H : Hp} {Q : Bool → Hp → Prop} {x y : Bool} (ha : ∀ R : Bool → Hp → Prop, R x H → ta σ H R) (hb : ∀ R : Bool → Hp → Prop, R y H → tb σ H R) (q : Q (x || y) H) : tOr ta tb σ H Q := by
  refine ha _ ?_
  cases x with
  | true => exact (if_pos rfl).mpr q
  | false => exact (if_neg Bool.false_ne_true).mpr (hb _ q)
theorem and_use {ta tb : TT} {σ : L2.St} {H : Hp} {Q : Bool → Hp → Prop} {x y : Bool} (ha : ∀ R : Bool → Hp → Prop, R x H → ta σ H R) (hb : ∀ R : Bool → Hp → Prop, R y H → tb σ H R) (q : Q (x && y) H) : tAnd ta tb σ H Q := by
  refine ha _ ?_
  cases x with
  | true => exact (if_pos rfl).mpr (hb _ q)
  | false => exact (if_neg Bool.false_ne_true).mpr q
/-! try with several clauses, each with a name of its own -/
/-- a clause: the class, the slot of the name, the suite's reading -/
structure Cl where
  c : Value
  i : Nat
  ts : Addr → Value → Option Addr → TS
/-- behind a suite its name is gone -/
def goneE (i : Nat) (D : Ends) : Ends := ⟨fun τ J => D.nx (τ.set i none) J, D.rt, fun τ J => D.bk (τ.set i none) J, fun τ J => D.ct (τ.set i none) J⟩
def wCl (K : PySem.W.Frag) (Wo : WX) (D : Ends) : List Cl → WX
  | [] => Wo
  | k :: r => fun cl dd τ J => ∃ yes, PySem.W.exmOne K cl k.c = some yes ∧ (yes = true → ∀ a, J a = none → k.ts a cl dd (goneE k.i D) (τ.set k.i (some (.ref a))) J) ∧ (yes = false → wCl K Wo D r cl dd τ J)
inductive ClOk (X : Cx) : List ExceptHandler → List Cl → Prop
  | nil : ClOk X [] []
  | cons {x n : Str} {c : Value} {i : Nat} {ts : Addr → Value → Option Addr → TS} {b0 : Stmt} {bs : List Stmt} {p1 p2 : Pos} {hs : List ExceptHandler} {ks : List Cl} (hi : X.N[i]? = some n) (hl : X.env.kindOf n = some .local) (hc : Names X x c)
      (hb : ∀ (a : Addr) (ob : Obj) (cl : Value) (dd : Option Addr) (ps : List (Addr × Obj)), Zc cl dd ob → (∃ vs, ob.data = .fields vs) → PSs (X.suite a ((a, ob) :: ps)) (b0 :: bs) (ts a cl dd)) (r : ClOk X hs ks) :
      ClOk X (.ExceptHandler (some (.Name x p1)) (some n) (b0 :: bs) p2 :: hs) (⟨c, i, ts⟩ :: ks)
section
variable {X : Cx} {body : List Stmt} {h0 : ExceptHandler} {hs : List ExceptHandler} {ks : List Cl} {p0 : Pos} {tb : WX → TS} {Wo : WX}
theorem ps_try_cl (e1 : X.stack = X.env :: X.outer) (e2 : X.env.frame = some X.env.locals) (hN : X.N.Nodup) (tk : Takes X Wo)
    (hb : ∀ (Wi : WX) (ps : List (Addr × Obj)) (xe : Value → Shared → Prop), Takes (X.tr ps xe) Wi → PassesOwn (model X.prog X.w) X.A X.env xe → PSs (X.tr ps xe) body (tb Wi))
    (hh : ClOk X (h0 :: hs) ks) : PS X (.Try body (h0 :: hs) [] [] p0) (fun D τ J => tb (wCl X.K Wo D ks) D τ J) := by
  refine ⟨fun pins s τ J D I0 h => ?_⟩
  have okX := I0.ok
  have efr : X.A.frames = some (X.env :: X.outer) := okX.frames.trans (by rw [e1])
  refine wpAny_Try_except ?_
  have hrun := (hb (wCl X.K Wo D ks) (X.pn ++ pins) (fun e t1 => wpAny (model X.prog X.w) X.A (noteFrame e X.env) (fun _ t2 => wpAny (model X.prog X.w) X.A (setFlight e none) (fun _ t3 => wpAny (model X.prog X.w) X.A (handleBy e X.env (h0 :: hs)) (SP X pins D) X.xe t3) X.xe t2) X.xe t1) ?takes PassesOwn.looking).run [] s τ J D (I0.toTry _) h
  case takes =>
    rintro u t ⟨a, B, tI, qins, τ', J', cl, dd, rfl, I', nb, up0, sk, na, os, ag, w⟩
    have I1 : Inv X pins τ' J' tI := I'.ofTry okX
    have sk1 : Sky B (X.env :: X.outer) a (Zc cl dd) X.env.locals t.heap := e1 ▸ sk
    show wpAny (model X.prog X.w) X.A (noteFrame (.ref a) X.env) _ _ _
    refine Sky.land Zc.steady efr e2 sk1 fun h3 fl up1 => ?_
    have I3 : Inv X pins τ' J' { t with heap := h3 } := I1.landed nb fl.1 (up0.trans up1) os ag
    obtain ⟨o3, vs3, g3, z3, d3⟩ := fl.there
    have nofr : a ∉ frs (X.env :: X.outer) := fun hm => by
      obtain ⟨_, o', g', nf⟩ := fl.2.2.1.mem hm
      rw [g3] at g'
      cases g'
      exact nf _ d3
    have noL : a ≠ X.env.locals := fun z => nofr (List.mem_filterMap.mpr ⟨X.env, List.mem_cons_self, e2.trans (by rw [z])⟩)
    have noF : a ∉ X.fs := fun hm => by
      obtain ⟨e, he, q⟩ := List.mem_filterMap.mp hm
      exact nofr (List.mem_filterMap.mpr ⟨e, List.mem_cons_of_mem _ he, q⟩)
    have S3 := I3.suite g3 d3 na noL noF
    have pass : ∀ {gs : List ExceptHandler} {ls : List Cl}, ClOk X gs ls → wCl X.K Wo D ls cl dd τ' J' → wpAny (model X.prog X.w) X.A (handleBy (.ref a) X.env gs) (SP X pins D) X.xe { t with heap := h3 } := fun {gs ls} hk => by
      induction hk with
      | nil =>
        intro wo
        refine wpAny_handleBy_nil ?_
        obtain ⟨_, _, _, ob, vs, Tb, oT, ts', he, _, hd, h1, _⟩ := id fl
        unfold PySem.passOn
        refine wpAny_bind (wpAny_field he hd h1 ?_)
        rw [if_neg (show ¬ ((Value.ref Tb == Value.none) = true) from by simp)]
        have last : wpAny (model X.prog X.w) X.A (setFlight (.ref a) X.env.frame) (fun _ t4 => wpAny (model X.prog X.w) X.A (throw (.ref a) : Sem Flow) (SP X pins D) X.xe t4) X.xe { t with heap := h3 } := by
          rw [e2]
          exact HandSPX.setFlight_upZ fl fun h4 fl4 up4 => wpAny_throw (tk _ _ ⟨a, B, tI, pins, τ', J', cl, dd, rfl, I1, nb, (up0.trans up1).trans up4, .inr (.inr (by rw [e1]; exact fl4)), na, os, ag, wo⟩)
        first
          | exact wpAny_bind (wpAny_pure (wpAny_bind last))
          | exact wpAny_bind last
      | @cons x n c i ts b0 bs p1 p2 hs2 ks2 hi hl hc hsu _ ih =>
        rintro ⟨yes, hy, hyes, hno⟩
        refine wpAny_handleBy_cons (codeAny_handlers_test ?_) (by intro q; cases q)
        have LT : PySem.W.Looks (model X.prog X.w) h3 (typeOf (.ref a)) cl := fun A0 Q0 E0 s0 kk q => wpAny_typeOf_ref (kk _ _ g3) (by rw [z3.1]; exact q)
        have LM := PySem.W.exm_one (M := model X.prog X.w) I3.kIn LT hy
        have look : ∀ {Q0 E0 : Value → Shared → Prop}, Q0 c { t with heap := h3 } → wpAny (model X.prog X.w) (X.A.mark (some (.ref a))) (eval (.Name x p1) X.env) Q0 E0 { t with heap := h3 } := fun {Q0 E0} q => by
          obtain ⟨hg, hdb, hm | ⟨hm, hv, hnn⟩⟩ := hc
          · exact ld_glob (X := X.suite a ((a, o3) :: (X.pn ++ pins))) S3 hg hm q hdb
          · exact ld_blt (X := X.suite a ((a, o3) :: (X.pn ++ pins))) S3 hg hm hv q hnn hdb
        refine look (LM.here ?_)
        cases yes with
        | false =>
          show wpAny _ X.A (handleBy (.ref a) X.env hs2) _ _ _
          exact ih (hno rfl)
        | true =>
          refine codeAny_handlers_suite_as ?_
          refine HandSPX.lands_againZ fl fun h4 fl4 up4 => ?_
          have I4 : Inv X pins τ' J' { t with heap := h4 } := I1.landed nb fl4.1 ((up0.trans up1).trans up4) os ag
          obtain ⟨o4, vs4, g4, z4, d4⟩ := fl4.there
          have S4 := I4.suite g4 d4 na noL noF
          refine store_ok (X := X.suite a ((a, o4) :: (X.pn ++ pins))) (v := .ref a) S4 hN hi (.inl hl) rfl (fun t5 S5 => ?_) (.inr hl)
          refine wpAny_mono ((hsu a o4 cl dd (X.pn ++ pins) z4 ⟨_, d4⟩).run [] t5 _ J' _ S5 (hyes rfl a na)) (fun f t6 fin => ?_) (fun _ _ z => False.elim z)
          have off : ∀ {τ6 : L2.St} {J6 : Hp} {Qz : Shared → Prop}, Inv (X.suite a ((a, o4) :: (X.pn ++ pins))) [] τ6 J6 t6 → (∀ t7, Inv X pins (τ6.set i none) J6 t7 → Qz t7) → wpAny (model X.prog X.w) X.A (do bindName X.env n .none; unbindBehindTheSuite X.env n p2) (fun _ t7 => Qz t7) X.xe t6 := fun {τ6 J6 Qz} S6 hq => gone_ok (S6.unsuite okX) hN hi hl hq
          cases f with
          | next => exact let ⟨τ6, J6, S6, q6⟩ := fin; off S6 fun t7 I7 => ⟨_, _, I7, q6⟩
          | brk => exact let ⟨τ6, J6, S6, q6⟩ := fin; off S6 fun t7 I7 => ⟨_, _, I7, q6⟩
          | cont => exact let ⟨τ6, J6, S6, q6⟩ := fin; off S6 fun t7 I7 => ⟨_, _, I7, q6⟩
          | ret u => exact let ⟨v6, τ6, J6, S6, r6, q6⟩ := fin; off S6 fun t7 I7 => ⟨_, _, _, I7, r6, q6⟩
    exact pass hh w
  refine wpAny_mono hrun (fun f t1 fin => ?_) (fun e t1 he => he)
  cases f with
  | next => exact let ⟨τ', J', I', q⟩ := fin; wpAny_execs_nil ⟨τ', J', I'.ofTry okX, q⟩
  | brk => exact let ⟨τ', J', I', q⟩ := fin; ⟨τ', J', I'.ofTry okX, q⟩
  | cont => exact let ⟨τ', J', I', q⟩ := fin; ⟨τ', J', I'.ofTry okX, q⟩
  | ret u => exact let ⟨v, τ', J', I', r, q⟩ := fin; ⟨v, τ', J', I'.ofTry okX, r, q⟩
end
def Bytes (bs : List Int) : Prop := ∀ b ∈ bs, 0 ≤ b ∧ b < 256
/-- numbers stay below this -/
def Lim : Nat := 128 ^ 500
/-! numbers written in groups of seven bits -/
def enc (n : Nat) : List Int := if h : n ≤ 127 then [(n : Int)] else ((128 + n % 128 : Nat) : Int) :: enc (n / 128)
termination_by n
decreasing_by omega
theorem enc_small {n : Nat} (h : n ≤ 127) : enc n = [(n : Int)] := by rw [enc, dif_pos h]
theorem enc_big {n : Nat} (h : ¬ n ≤ 127) : enc n = ((128 + n % 128 : Nat) : Int) :: enc (n / 128) := by rw [enc, dif_neg h]
theorem enc_len : ∀ (L n : Nat), n < 128 ^ (L + 1) → (enc n).length ≤ L + 1
  | 0, n, h => by
    have : n ≤ 127 := by simp at h; omega
    rw [enc_small this]
    simp
  | L + 1, n, h => by
    by_cases c : n ≤ 127
    · rw [enc_small c]
      simp
    · rw [enc_big c, List.length_cons]
      have := enc_len L (n / 128) (by rw [Nat.pow_succ] at h; exact (Nat.div_lt_iff_lt_mul (by decide)).mpr h)
      omega
theorem enc_lim {n : Nat} (h : n < Lim) : (enc n).length ≤ 500 := enc_len 499 n h
theorem enc_pos (n : Nat) : 0 < (enc n).length := by
  by_cases c : n ≤ 127
  · rw [enc_small c]; simp
  · rw [enc_big c, List.length_cons]; omega
theorem enc_bytes : ∀ n : Nat, Bytes (enc n) := by
  intro n
  induction n using Nat.strongRecOn with
  | ind n ih =>
    intro b hb
    by_cases c : n ≤ 127
    · rw [enc_small c, List.mem_singleton] at hb
      omega
    · rw [enc_big c] at hb
      rcases List.mem_cons.mp hb with e | hb
      · omega
      · exact ih (n / 128) (by omega) b hb
/-- what a row holds from its begin on -/
inductive Rd where
  | num (n : Int) (len : Nat)
  | trunc
  | malf
def rdGo : Nat → Nat → Int → List Int → Rd
  | 0, _, _, _ => .malf
  | _ + 1, _, _, [] => .trunc
  | f + 1, c, acc, b :: bs => if b < 128 then (if b = 0 ∧ 0 < c then .malf else .num (acc + b * 128 ^ c) (c + 1)) else rdGo f (c + 1) (acc + (b - 128) * 128 ^ c) bs
def rd (bs : List Int) : Rd := rdGo 500 0 0 bs
theorem rd_enc : ∀ (n : Nat) (f c : Nat) (acc : Int) (rest : List Int), (enc n).length ≤ f → (c = 0 ∨ n ≠ 0) → rdGo f c acc (enc n ++ rest) = .num (acc + n * 128 ^ c) (c + (enc n).length) := by
  intro n
  induction n using Nat.strongRecOn with
  | ind n ih =>
    intro f c acc rest hl hc
    by_cases h : n ≤ 127
    · rw [enc_small h] at hl ⊢
      obtain ⟨f, rfl⟩ : ∃ g, f = g + 1 := ⟨f - 1, by simp at hl; omega⟩
      show (if (n : Int) < 128 then (if (n : Int) = 0 ∧ 0 < c then Rd.malf else .num (acc + n * 128 ^ c) (c + 1)) else _) = _
      rw [if_pos (by omega), if_neg (by omega)]
      rfl
    · rw [enc_big h] at hl ⊢
      obtain ⟨f, rfl⟩ : ∃ g, f = g + 1 := ⟨f - 1, by simp at hl; omega⟩
      show (if ((128 + n % 128 : Nat) : Int) < 128 then _ else rdGo f (c + 1) (acc + (((128 + n % 128 : Nat) : Int) - 128) * 128 ^ c) (enc (n / 128) ++ rest)) = _
      rw [if_neg (by omega), ih (n / 128) (by omega) f (c + 1) _ rest (by simp at hl; omega) (.inr (by omega)), List.length_cons]
      have e : ((n : Int)) = ((n / 128 : Nat) : Int) * 128 + ((n % 128 : Nat) : Int) := by omega
      have e1 : (((128 + n % 128 : Nat) : Int) - 128) = ((n % 128 : Nat) : Int) := by omega
      rw [e1]
      congr 1
      · rw [Int.pow_succ, Int.mul_comm (128 ^ c) 128, ← Int.mul_assoc, Int.add_assoc, ← Int.add_mul]
        congr 2
        omega
      · omega
def sp_take (K : PySem.W.Frag) (cT cM : Addr) : Sp := fun vs H Q E => ∃ (a : Addr) (bs : List Int) (i : Nat), vs = [.ref a, .int (i : Int)] ∧ SqL K H a (bs.map V.int) ∧ Bytes bs ∧ i ≤ bs.length ∧ bs.length ≤ 90000 ∧
  (∀ n c, rd (bs.drop i) = .num n c → ∀ p H', H p = none → Same H H' → H' p = some (.tup [.int n, .int ((i + c : Nat) : Int)]) → Q (.ref p) H') ∧ (rd (bs.drop i) = .trunc → E (.ref cT) none H) ∧ (rd (bs.drop i) = .malf → E (.ref cM) none H)
theorem pow128 (t : Nat) : (2 : Int) ^ (7 * t) = 128 ^ t := by rw [Int.pow_mul]; rfl
theorem and127 : V.int 127 = V.int (2 ^ 7 - 1) := by congr 1
section
variable {P : Program} {w : World} {K : PySem.W.Frag} {mg : Str → Option Value} {base : Heap}
theorem ok_take_number (T : TX K mg) : FnOk P w K mg base (L2.CX P w) 1 T.a_take_number T.d_take_number ["row", "index"] (sp_take K T.a_Truncated T.a_Malformed) := by
  refine T.F_take_number.okX sc_take_number (fun vs H Q E h => ?_) (fun cdv A outer s H vs Q E hr h => ?_)
  · obtain ⟨a, bs, i, rfl, _⟩ := h
    rfl
  · obtain ⟨a, bs, i, rfl, hS, hb, hi, hlen, q, qT, qM⟩ := h
    refine ⟨_, (pss_cons (ps_set (i := 2) sc_take_number.nd rfl (Or.inl rfl) pe_int)
      (pss_cons (ps_set (i := 3) sc_take_number.nd rfl (Or.inl rfl) pe_int)
      (pss_cons (ps_for (passes_of rfl) rfl (pi_range2 (by rfl) T.n_range (pa_cons (pv 1) (pa_cons (pe_callB (call_min2 rfl) (by rfl) T.n_min (by decide +kernel) (pa_cons (pe_callB call_len_seq (by rfl) T.n_len PySem.boot_len (pa_cons (pv 0) pa_nil)) (pa_cons (pe_op op_add (pv 1) (pe_glob (v := .int 500) (by rfl) T.c_MOST_BYTES ⟨_, rfl⟩)) pa_nil))) pa_nil))) (pg_name (i := 4) sc_take_number.nd rfl (Or.inl rfl))
        (pss_cons (ps_set (i := 5) sc_take_number.nd rfl (Or.inl rfl) (pe_ix ix_list (pv 0) (pv 4) (fun _ _ => rfl)))
        (pss_cons (ps_aug (i := 2) sc_take_number.nd rfl (Or.inl rfl) (pe_op op_shlN (pe_op op_andM (pv 5) pe_int) (pv 3)) ip_or)
        (pss_cons (ps_aug (i := 3) sc_take_number.nd rfl (Or.inl rfl) pe_int ip_add)
        (pss_one (ps_if (pt_cmpR op_lt (pv 5) pe_int (nomark _)) (pss_cons (ps_if (PW.pt (pw_and (pt_cmpR op_eq (pv 5) pe_int (nomark _)) (pw_and1 (pt_cmpR op_gt (pv 4) (pv 1) (nomark _))))) (pss_one (ps_raise rfl (takes_of rfl rfl rfl rfl) (pmk_own PySem.F.excBase_ValueError T.x_Malformed T.g_Malformed T.k_Malformed (raises_own T.s_Malformed T.t_Malformed) rfl))) pss_nil)
          (pss_one (ps_ret (pe_tup (pa_cons (pv 2) (pa_cons (pe_op op_add (pv 4) pe_int) pa_nil)))))) pss_nil))))))
      (pss_cons (ps_if (pt_cmpR op_ge (pe_op op_sub (pe_callB call_len_seq (by rfl) T.n_len PySem.boot_len (pa_cons (pv 0) pa_nil)) (pv 1)) (pe_glob (v := .int 500) (by rfl) T.c_MOST_BYTES ⟨_, rfl⟩) (nomark _)) (pss_one (ps_raise rfl (takes_of rfl rfl rfl rfl) (pmk_own PySem.F.excBase_ValueError T.x_Malformed T.g_Malformed T.k_Malformed (raises_own T.s_Malformed T.t_Malformed) rfl))) pss_nil)
      (pss_one (ps_raise rfl (takes_of rfl rfl rfl rfl) (pmk_own PySem.F.excBase_ValueError T.x_Truncated T.g_Truncated T.k_Truncated (raises_own T.s_Truncated T.t_Truncated) rfl))))))), ?_⟩
    have hml : (bs.map V.int).length = bs.length := List.length_map _
    refine ⟨_, rfl, _, rfl, a, _, rfl, .inl hS, _, rfl, _, _, rfl, rfl, _, _, rfl, ?_⟩
    obtain ⟨m, hm, hmi⟩ : ∃ m : Nat, (if (i : Int) + 500 < (bs.length : Int) then (i : Int) + 500 else (bs.length : Int)) = ((i + m : Nat) : Int) ∧ m = min (bs.length - i) 500 := by
      refine ⟨min (bs.length - i) 500, ?_, rfl⟩
      split <;> omega
    refine ⟨(i : Int), ((i + m : Nat) : Int), ?_, ⟨by omega, by omega, by omega, by omega⟩, for_range (lo := (i : Int)) (n := _) (fun t σ H' => H = H' ∧ ∃ (x4 x5 : Option V) (acc : Int), σ = [some (.ref a), some (.int (i : Int)), some (.int acc), some (.int ((7 * t : Nat) : Int)), x4, x5] ∧ 0 ≤ acc ∧ acc < 2 ^ (7 * t) ∧ rd (bs.drop i) = rdGo (500 - t) t acc (bs.drop (i + t)))
      ?_ ?_ ?_⟩
    · try dsimp only
      rw [hml, hm]
    · exact ⟨rfl, none, none, 0, rfl, by decide, by decide, rfl⟩
    · rintro t σ _ ht ⟨rfl, x4, x5, acc, rfl, h0, h1, hrd⟩
      have ht' : t < m := by omega
      have hlt : i + t < bs.length := by omega
      have hg : bs[i + t]? = some bs[i + t] := List.getElem?_eq_getElem hlt
      have hbb := hb _ (List.getElem_mem hlt)
      have hdr : bs.drop (i + t) = bs[i + t] :: bs.drop (i + (t + 1)) := List.drop_eq_getElem_cons hlt
      have ga : atI (bs.map V.int) ((i : Int) + (t : Int)) = some (.int bs[i + t]) := by
        have := at_map (f := V.int) hg
        rwa [Int.natCast_add] at this
      rw [hdr, show 500 - t = (499 - t) + 1 by omega] at hrd
      generalize bs[i + t] = b at hg hbb hrd ga hdr
      have hp : (0 : Int) < 2 ^ (7 * t) := Int.pow_pos (by decide)
      refine ⟨_, rfl, _, rfl, a, _, _, .int b, rfl, rfl, hS, ga, ?_⟩
      refine ⟨_, rfl, _, rfl, b, 7, rfl, and127, _, rfl, b % 2 ^ 7, 7 * t, rfl, rfl, ⟨by omega, ?_⟩, acc, b % 2 ^ 7, 7 * t, rfl, rfl, ⟨by omega, h0, h1⟩, ?_⟩
      · obtain ⟨k, hk⟩ : ∃ k : Nat, b % 2 ^ 7 = (k : Int) := ⟨(b % 2 ^ 7).toNat, by omega⟩
        rw [hk]
        have := bits_small k (by omega)
        omega
      refine ⟨_, rfl, _, _, rfl, rfl, ?_⟩
      refine ⟨_, rfl, _, _, rfl, rfl, _, rfl, ifd (fun hc => ?_) (fun hc => ?_)⟩
      · have eb : b % 2 ^ 7 = b := by omega
        have hgo : rdGo ((499 - t) + 1) t acc (b :: bs.drop (i + (t + 1))) = if b = 0 ∧ 0 < t then .malf else .num (acc + b * 128 ^ t) (t + 1) := by
          show (if b < 128 then _ else _) = _
          rw [if_pos hc]
        rw [hgo] at hrd
        refine ⟨_, rfl, rfl, _, rfl, ifd (fun hz => ?_) (fun hz => ?_)⟩
        · have hz' : b = 0 := V.int.inj hz
          refine ⟨_, rfl, _, rfl, _, _, rfl, rfl, _, rfl, ifd (fun hq => ?_) (fun hq => ?_)⟩
          · rw [if_pos ⟨hz', by omega⟩] at hrd
            exact qM hrd
          · rw [if_neg (by omega)] at hrd
            refine ⟨_, rfl, _, rfl, _, _, rfl, rfl, (by show 2 ≤ sizeLine; decide), fun p hp => q _ _ hrd p _ hp (same_upd hp) ?_⟩
            rw [upd_same, eb, pow128]
            congr 6
        · rw [if_neg (fun z => hz (by rw [z.1]))] at hrd
          refine ⟨_, rfl, _, rfl, _, _, rfl, rfl, (by show 2 ≤ sizeLine; decide), fun p hp => q _ _ hrd p _ hp (same_upd hp) ?_⟩
          rw [upd_same, eb, pow128]
          congr 6
      · have eb : b % 2 ^ 7 = b - 128 := by omega
        have hgo : rdGo ((499 - t) + 1) t acc (b :: bs.drop (i + (t + 1))) = rdGo (499 - t) (t + 1) (acc + (b - 128) * 128 ^ t) (bs.drop (i + (t + 1))) := by
          show (if b < 128 then _ else _) = _
          rw [if_neg hc]
        rw [hgo] at hrd
        refine ⟨rfl, some (.int ((i : Int) + (t : Int))), some (.int b), acc + (b - 128) * 2 ^ (7 * t), ?_, ?_, ?_, ?_⟩
        · rw [eb]
          have : ((7 * t : Nat) : Int) + 7 = ((7 * (t + 1) : Nat) : Int) := by omega
          show [_, _, _, some (V.int (((7 * t : Nat) : Int) + 7)), _, _] = _
          rw [this]
        · have := Int.mul_nonneg (show (0 : Int) ≤ b - 128 by omega) (Int.le_of_lt hp)
          omega
        · have e1 : (2 : Int) ^ (7 * (t + 1)) = 128 * 2 ^ (7 * t) := by rw [pow128, pow128, Int.pow_succ, Int.mul_comm]
          have e2 : (b - 128) * 2 ^ (7 * t) ≤ 127 * 2 ^ (7 * t) := Int.mul_le_mul_of_nonneg_right (by omega) (Int.le_of_lt hp)
          rw [e1]
          omega
        · rw [pow128, show 500 - (t + 1) = 499 - t by omega]
          exact hrd
    · rintro σ _ ⟨rfl, x4, x5, acc, rfl, h0, h1, hrd⟩
      have hn : (((i + m : Nat) : Int) - (i : Int)).toNat = m := by omega
      rw [hn] at hrd
      refine ⟨_, rfl, a, _, rfl, .inl hS, _, rfl, _, _, rfl, rfl, _, _, rfl, rfl, _, rfl, ifd (fun hc => ?_) (fun hc => ?_)⟩
      · rw [hml] at hc
        have : m = 500 := by omega
        subst this
        exact qM hrd
      · rw [hml] at hc
        have h2 : bs.drop (i + m) = [] := List.drop_of_length_le (by omega)
        rw [h2, show 500 - m = (499 - m) + 1 by omega] at hrd
        exact qT hrd
end
def sp_put (K : PySem.W.Frag) : Sp := fun vs H Q _ => ∃ (n : Nat), vs = [.int (n : Int)] ∧ n < Lim ∧ ∀ p H', H p = none → Same H H' → H' p = some (.lst ((enc n).map V.int)) → Q (.ref p) H'
section
variable {P : Program} {w : World} {K : PySem.W.Frag} {mg : Str → Option Value} {base : Heap}
theorem ok_put_number (T : TX K mg) : FnOk P w K mg base CX0 1 T.a_put_number T.d_put_number ["number"] (sp_put K) := by
  refine T.F_put_number.ok sc_put_number (fun vs H Q E h => ?_) (fun cdv A outer s H vs Q E hr h => ?_)
  · obtain ⟨n, rfl, _⟩ := h
    rfl
  · obtain ⟨n, rfl, hn, q⟩ := h
    refine ⟨_, (pss_cons (ps_set (i := 1) sc_put_number.nd rfl (Or.inl rfl) (pe_lst pa_nil))
      (pss_cons (ps_while PassesOwn.never (pt_cmpR op_gt (pv 0) pe_int (nomark _))
        (pss_cons (ps_expr (pe_bm PySem.F.plainAttrs_list PySem.F.slot_list_append PySem.F.type_list_append mt_append (pv 1) (pa_cons (pe_op op_add pe_int (pe_op op_andM (pv 0) pe_int)) pa_nil)))
        (pss_one (ps_aug (i := 0) sc_put_number.nd rfl (Or.inl rfl) pe_int ip_shr))))
      (pss_cons (ps_expr (pe_bm PySem.F.plainAttrs_list PySem.F.slot_list_append PySem.F.type_list_append mt_append (pv 1) (pa_cons (pv 0) pa_nil)))
      (pss_one (ps_ret (pv 1)))))), ?_⟩
    have hl := enc_lim hn
    refine ⟨Nat.zero_le _, fun o ho => ?_⟩
    refine while_by (fun σ H' => ∃ (xs : List Int) (m : Nat), σ = [some (.int (m : Int)), some (.ref o)] ∧ Same H H' ∧ H' o = some (.lst (xs.map V.int)) ∧ xs ++ enc m = enc n) (fun σ _ => match σ with | some (.int m) :: _ => m.toNat | _ => 0)
      ⟨[], n, rfl, same_upd ho, upd_same, rfl⟩ ?_ (fun σ H Q Q' hq ⟨v, h1, i, j, h2, h3, k, h4, h5⟩ => ⟨v, h1, i, j, h2, h3, k, h4, hq _ _ h5⟩)
    rintro σ H' ⟨xs, m, rfl, s1, e1, hx⟩
    have hxl : xs.length ≤ 500 := by
      have := congrArg List.length hx
      rw [List.length_append] at this
      omega
    refine ⟨_, rfl, _, _, rfl, rfl, _, rfl, ifd (fun hc => ?_) (fun hc => ?_)⟩
    · have hm : ¬ m ≤ 127 := by omega
      refine ⟨_, rfl, .inl ⟨rfl, _, sql e1⟩, _, rfl, (m : Int), 7, rfl, and127, _, _, rfl, rfl, o, _, _, rfl, rfl, e1, szl (by rw [List.length_map]; omega), ?_⟩
      refine ⟨_, rfl, (m : Int), 7, rfl, rfl, ?_⟩
      have e7 : (m : Int) / 2 ^ 7 = ((m / 128 : Nat) : Int) := by rw [Int.natCast_ediv]; rfl
      have e8 : 128 + (m : Int) % 2 ^ 7 = ((128 + m % 128 : Nat) : Int) := by rw [Int.natCast_add, Int.natCast_emod]; rfl
      refine ⟨⟨xs ++ [((128 + m % 128 : Nat) : Int)], m / 128, ?_, same_put s1 ho, ?_, ?_⟩, ?_⟩
      · show [some (V.int ((m : Int) / 2 ^ 7)), _] = _
        rw [e7]
      · rw [upd_same, List.map_append]
        show some (HO.lst (xs.map V.int ++ [V.int (128 + (m : Int) % 2 ^ 7)])) = _
        rw [e8]
        rfl
      · rw [List.append_assoc, ← hx, enc_big hm]
        rfl
      · show ((m : Int) / 2 ^ 7).toNat < ((m : Int)).toNat
        rw [e7]
        omega
    · have hm : m ≤ 127 := by omega
      rw [enc_small hm] at hx
      refine ⟨_, rfl, .inl ⟨rfl, _, sql e1⟩, _, rfl, o, _, _, rfl, rfl, e1, szl (by rw [List.length_map]; omega), ?_⟩
      refine ⟨_, rfl, q o _ ho (same_put s1 ho) ?_⟩
      rw [upd_same, ← hx, List.map_append]
      rfl
end
def plainC (c : Nat) : Bool := !(decide (c < 32) || decide (126 < c) || decide (c = 37))
def plainS (z : Str) : Bool := z.cps.toList.all plainC
theorem zlen (z : Str) : z.length = z.cps.toList.length := by show z.cps.size = _; simp
theorem str_ext {a b : Str} (h : a.cps.toList = b.cps.toList) : a = b := by
  cases a; cases b
  simp only [Str.mk.injEq]
  exact Array.toList_inj.mp h
def sp_str (f : Str → Bool) : Sp := fun vs H Q _ => ∃ z, vs = [.str z] ∧ z.length ≤ 100000 ∧ Q (.bl (f z)) H
theorem all_take {α : Type} {l : List α} {i : Nat} {x : α} {f : α → Bool} (h : l[i]? = some x) : (l.take (i + 1)).all f = ((l.take i).all f && f x) := by
  rw [take_more h, List.all_append]
  simp
theorem cps_at {z : Str} {i c : Nat} (h : z.cps[i]? = some c) : z.cps.toList[i]? = some c := by simpa using h
theorem sizeL (z : Str) : z.cps.size = z.cps.toList.length := by simp
theorem sign_inj {a b : Nat} (h : (⟨#[a]⟩ : Str) = ⟨#[b]⟩) : a = b := by
  injection h with h
  injection h with h
  injection h with h
section
variable {P : Program} {w : World} {K : PySem.W.Frag} {mg : Str → Option Value} {base : Heap}
theorem ok_has_plain_characters (T : TX K mg) : FnOk P w K mg base CX0 1 T.a_has_plain_characters T.d_has_plain_characters ["text"] (sp_str plainS) := by
  refine T.F_has_plain_characters.ok sc_has_plain_characters (fun vs H Q E h => ?_) (fun cdv A outer s H vs Q E hr h => ?_)
  · obtain ⟨z, rfl, _⟩ := h
    rfl
  · obtain ⟨z, rfl, hz, q⟩ := h
    refine ⟨_, (pss_cons (ps_for PassesOwn.never rfl (pi_str (pv 0)) (pg_name (i := 1) sc_has_plain_characters.nd rfl (Or.inl rfl))
        (pss_cons (ps_set (i := 2) sc_has_plain_characters.nd rfl (Or.inl rfl) (pe_callB call_ord (by rfl) T.n_ord (by decide +kernel) (pa_cons (pv 1) pa_nil)))
        (pss_one (ps_if (PW.pt (pw_or (pt_cmpR op_lt (pv 2) (pe_glob (v := .int 32) (by rfl) T.c_SPACE ⟨_, rfl⟩) (nomark _)) (pw_or (pt_cmpR op_gt (pv 2) (pe_glob (v := .int 126) (by rfl) T.c_TILDE ⟨_, rfl⟩) (nomark _)) (pw_or1 (pt_cmpR op_eq (pv 2) (pe_glob (v := .int 37) (by rfl) T.c_PERCENT ⟨_, rfl⟩) (nomark _)))))) (pss_one (ps_ret pe_bl)) pss_nil))))
      (pss_one (ps_ret pe_bl))), ?_⟩
    refine ⟨_, rfl, z, rfl, for_it walk_str (fun i σ H2 => H = H2 ∧ (z.cps.toList.take i).all plainC = true ∧ ∃ x1 x2, σ = [some (.str z), x1, x2]) ⟨rfl, rfl, none, none, rfl⟩ (fun _ _ _ _ _ => trivial) ?_ ?_⟩
    · rintro i x σ _ _ hi ⟨rfl, ha, x1, x2, rfl⟩ ⟨rfl, c, hc, rfl⟩
      have hm := all_take (f := plainC) (cps_at hc)
      rw [ha, Bool.true_and] at hm
      have hno : plainC c = false → plainS z = false := fun h => by
        unfold plainS
        rw [List.all_eq_false]
        exact ⟨c, List.mem_of_getElem? (cps_at hc), by rw [h]; simp⟩
      refine ⟨_, rfl, _, rfl, rfl, _, rfl, _, _, rfl, rfl, _, rfl, ifd (fun h1 => ?_) (fun h1 => ?_)⟩
      · refine (if_pos rfl).mpr ?_
        have : plainC c = false := by
          unfold plainC
          have h1' : (c : Int) < 32 := h1
          simp [show c < 32 by omega]
        rw [hno this] at q
        exact q
      · refine ⟨_, rfl, _, _, rfl, rfl, _, rfl, ifd (fun h2 => ?_) (fun h2 => ?_)⟩
        · refine (if_pos rfl).mpr ?_
          have : plainC c = false := by
            unfold plainC
            have h2' : (126 : Int) < (c : Int) := h2
            simp [show 126 < c by omega]
          rw [hno this] at q
          exact q
        · refine ⟨_, rfl, rfl, _, rfl, ifd (fun h3 => ?_) (fun h3 => ?_)⟩
          · have h3' : ((c : Nat) : Int) = 37 := V.int.inj h3
            have : plainC c = false := by
              unfold plainC
              simp [show c = 37 by omega]
            rw [hno this] at q
            exact q
          · have h3' : ¬ ((c : Nat) : Int) = 37 := fun z => h3 (by show V.int _ = V.int _; rw [← z]; rfl)
            have h1' : ¬ (c : Int) < 32 := h1
            have h2' : ¬ (126 : Int) < (c : Int) := h2
            refine ⟨rfl, ?_, _, _, rfl⟩
            rw [hm]
            unfold plainC
            simp only [Bool.not_eq_true', Bool.or_eq_false_iff, decide_eq_false_iff_not]
            omega
    · rintro σ _ ⟨rfl, ha, x1, x2, rfl⟩
      rw [sizeL, List.take_length] at ha
      have : plainS z = true := ha
      rw [this] at q
      exact q
end
/-! values: the mirror -/
mutual
def pkL : PyData → List Int
  | .none => [0]
  | .bool b => [if b = true then 2 else 1]
  | .int i => if i < 0 then 4 :: enc (-1 - i).toNat else 3 :: enc i.toNat
  | .str x => 5 :: (enc x.length ++ x.cps.toList.map fun (c : Nat) => (c : Int) - 32)
  | .tuple ds => 6 :: (enc ds.length ++ pkA ds)
  | _ => []
def pkA : List PyData → List Int
  | [] => []
  | d :: ds => pkL d ++ pkA ds
end
def bitsOk (i : Int) : Bool := decide (Builtin.Int.intBits i ≤ 3000)
/-! a value, n tuples deep at most -/
mutual
def okV : Nat → PyData → Bool
  | _, .none => true
  | _, .bool _ => true
  | _, .int i => bitsOk i
  | _, .str x => decide (x.length ≤ 60000) && plainS x
  | n + 1, .tuple ds => decide (ds.length ≤ 60000) && okA n ds
  | _, _ => false
def okA : Nat → List PyData → Bool
  | _, [] => true
  | n, d :: ds => okV n d && okA n ds
end
/-! what is asked of a thing that is looked at: its texts and tuples are no longer than a line -/
mutual
def fits : PyData → Bool
  | .str x => decide (x.length ≤ 90000)
  | .tuple ds => decide (ds.length ≤ 90000) && fitsA ds
  | .list _ => true
  | .dict _ => false
  | _ => true
def fitsA : List PyData → Bool
  | [] => true
  | d :: ds => fits d && fitsA ds
end
theorem okA_at {n : Nat} : ∀ {ds : List PyData} {i : Nat} {d : PyData}, okA n ds = true → ds[i]? = some d → okV n d = true
  | [], i, _, _, h => by simp at h
  | d :: ds, 0, _, h, e => by
    simp only [List.getElem?_cons_zero, Option.some.injEq] at e
    subst e
    exact (Bool.and_eq_true_iff.mp (show (okV n d && okA n ds) = true by simpa [okA] using h)).1
  | d :: ds, i + 1, _, h, e => okA_at (i := i) ((Bool.and_eq_true_iff.mp (show (okV n d && okA n ds) = true by simpa [okA] using h)).2) (by simpa using e)
theorem okA_take {n i : Nat} : ∀ {ds : List PyData} {d : PyData}, ds[i]? = some d → okA n (ds.take (i + 1)) = (okA n (ds.take i) && okV n d) := by
  induction i with
  | zero =>
    intro ds d h
    cases ds with
    | nil => simp at h
    | cons e ds =>
      simp only [List.getElem?_cons_zero, Option.some.injEq] at h
      subst h
      simp [okA]
  | succ i ih =>
    intro ds d h
    cases ds with
    | nil => simp at h
    | cons e ds =>
      simp only [List.getElem?_cons_succ] at h
      rw [List.take_succ_cons, List.take_succ_cons]
      show (okV n e && okA n (ds.take (i + 1))) = ((okV n e && okA n (ds.take i)) && okV n d)
      rw [ih h, Bool.and_assoc]
theorem okA_no {n i : Nat} {ds : List PyData} {d : PyData} (h : ds[i]? = some d) (hd : okV n d = false) : okA n ds = false := by
  cases e : okA n ds with
  | false => rfl
  | true => rw [okA_at e h] at hd; cases hd
theorem fitsA_at : ∀ {ds : List PyData} {i : Nat} {d : PyData}, fitsA ds = true → ds[i]? = some d → fits d = true
  | [], i, _, _, h => by simp at h
  | d :: ds, 0, _, h, e => by
    simp only [List.getElem?_cons_zero, Option.some.injEq] at e
    subst e
    exact (Bool.and_eq_true_iff.mp (show (fits d && fitsA ds) = true by simpa [fitsA] using h)).1
  | d :: ds, i + 1, _, h, e => fitsA_at (i := i) ((Bool.and_eq_true_iff.mp (show (fits d && fitsA ds) = true by simpa [fitsA] using h)).2) (by simpa using e)
theorem pkA_take {i : Nat} : ∀ {ds : List PyData} {d : PyData}, ds[i]? = some d → pkA (ds.take (i + 1)) = pkA (ds.take i) ++ pkL d := by
  induction i with
  | zero =>
    intro ds d h
    cases ds with
    | nil => simp at h
    | cons e ds =>
      simp only [List.getElem?_cons_zero, Option.some.injEq] at h
      subst h
      simp [pkA]
  | succ i ih =>
    intro ds d h
    cases ds with
    | nil => simp at h
    | cons e ds =>
      simp only [List.getElem?_cons_succ] at h
      rw [List.take_succ_cons, List.take_succ_cons]
      show pkL e ++ pkA (ds.take (i + 1)) = (pkL e ++ pkA (ds.take i)) ++ pkL d
      rw [ih h, List.append_assoc]
theorem pkA_pre {i : Nat} : ∀ {ds : List PyData}, (pkA (ds.take i)).length ≤ (pkA ds).length := fun {ds} => by
  induction ds generalizing i with
  | nil => simp
  | cons d ds ih =>
    cases i with
    | zero => simp [pkA]
    | succ i =>
      rw [List.take_succ_cons]
      show (pkL d ++ pkA (ds.take i)).length ≤ (pkL d ++ pkA ds).length
      rw [List.length_append, List.length_append]
      have := ih (i := i)
      omega
theorem pkL_at {i : Nat} {ds : List PyData} {d : PyData} (h : ds[i]? = some d) : (pkA (ds.take i)).length + (pkL d).length ≤ (pkA ds).length := by
  have := pkA_pre (i := i + 1) (ds := ds)
  rw [pkA_take h, List.length_append] at this
  exact this
/-! isinstance of data -/
def kindOf : PyData → String
  | .none => "NoneType"
  | .bool _ => "bool"
  | .int _ => "int"
  | .str _ => "str"
  | .list _ => "list"
  | .tuple _ => "tuple"
  | .dict _ => "dict"
theorem dp_tyx {K : PySem.W.Frag} {H : Hp} {v : V} {d : PyData} (h : Dp K H v d) : TyX K H v (.type (kindOf d)) := by
  cases h with
  | non => exact .base .non
  | bl b => exact .base (.bl b)
  | int i => exact .base (.int i)
  | str x => exact .base (.str x)
  | lst h _ => exact tyx_l h
  | tup h _ => exact tyx_t h
def isK (k t : String) : Bool := k == t || (k == "bool" && t == "int")
def kinds6 : List String := ["NoneType", "bool", "int", "str", "list", "tuple"]
theorem kind_in (d : PyData) : kindOf d = "dict" ∨ kindOf d ∈ kinds6 := by
  cases d <;> first | exact .inl rfl | exact .inr (by unfold kindOf kinds6; simp)
theorem kit_all : ∀ k ∈ kinds6, ∀ t ∈ ["bool", "int", "str", "tuple", "list"], kitB k t = some (isK k t) := by decide +kernel
theorem dp_nodict {K : PySem.W.Frag} {H : Hp} {v : V} {d : PyData} (h : Dp K H v d) : kindOf d ∈ kinds6 := by
  cases h <;> (unfold kindOf kinds6; simp)
theorem isi_d {K : PySem.W.Frag} {H : Hp} {v : V} {d : PyData} {t : String} {Q : VK} (h : Dp K H v d) (ht : t ∈ ["bool", "int", "str", "tuple", "list"]) (q : Q (.bl (isK (kindOf d) t)) H) : rIsi K [v, .ty t] H Q :=
  ⟨v, .ty t, .type (kindOf d), .type t, isK (kindOf d) t, rfl, .ty _, dp_tyx h, kit_ty (kit_all _ (dp_nodict h) _ ht), q⟩
theorem tisi {K : PySem.W.Frag} {σ : L2.St} {H : Hp} {Q : Bool → Hp → Prop} {i : Nat} {v : V} {d : PyData} {t : String} (hv : σ[i]? = some (some v)) (hd : Dp K H v d) (q : Q (isK (kindOf d) t) H) (ht : t ∈ ["bool", "int", "str", "tuple", "list"] := by simp) :
    tB (tCB (rIsi K) (tCons (tVar i) (tCons (tC (.ty t)) tNil))) σ H Q := ⟨v, hv, (isi_d hd ht ⟨_, rfl, q⟩ : rIsi K [v, .ty t] H (fun x H1 => ∃ c, x = .bl c ∧ Q c H1))⟩
theorem okV_non (n : Nat) : okV n .none = true := by cases n <;> simp [okV]
theorem okV_bl (n : Nat) (b : Bool) : okV n (.bool b) = true := by cases n <;> simp [okV]
theorem okV_int (n : Nat) (i : Int) : okV n (.int i) = decide (((Builtin.Int.intBits i : Nat) : Int) ≤ 3000) := by
  have : okV n (.int i) = bitsOk i := by cases n <;> simp [okV]
  rw [this]
  unfold bitsOk
  rw [decide_eq_decide]
  omega
theorem okV_str (n : Nat) (x : Str) : okV n (.str x) = (decide (((x.length : Nat) : Int) ≤ 60000) && plainS x) := by
  have : okV n (.str x) = (decide (x.length ≤ 60000) && plainS x) := by cases n <;> simp [okV]
  rw [this]
  congr 1
  rw [decide_eq_decide]
  omega
theorem okV_lst (n : Nat) (ds : List PyData) : okV n (.list ds) = false := by cases n <;> simp [okV]
theorem okV_tup0 (ds : List PyData) : okV 0 (.tuple ds) = false := by simp [okV]
theorem okV_tup (n : Nat) (ds : List PyData) : okV (n + 1) (.tuple ds) = (decide (ds.length ≤ 60000) && okA n ds) := by simp [okV]
theorem fits_tup {ds : List PyData} (h : fits (.tuple ds) = true) : ds.length ≤ 90000 ∧ fitsA ds = true := by
  simp only [fits, Bool.and_eq_true, decide_eq_true_eq] at h
  exact h
theorem fits_str {x : Str} (h : fits (.str x) = true) : x.length ≤ 90000 := by
  simp only [fits, decide_eq_true_eq] at h
  exact h
def spW (K : PySem.W.Frag) : Nat → Sp
  | 0 => fun _ _ _ _ => False
  | n + 1 => fun vs H Q _ => ∃ (v : V) (d : PyData), vs = [v, .int (20 - (n : Int))] ∧ n ≤ 20 ∧ Dp K H v d ∧ fits d = true ∧ Q (.bl (okV n d)) H
def sp_isv (K : PySem.W.Frag) : Sp := fun vs H Q _ => ∃ (v : V) (d : PyData), vs = [v] ∧ Dp K H v d ∧ fits d = true ∧ Q (.bl (okV 20 d)) H
section
variable {P : Program} {w : World} {K : PySem.W.Frag} {mg : Str → Option Value} {base : Heap}
theorem okn__is_value_within (T : TX K mg) : ∀ n : Nat, FnOk P w K mg base CX0 (n + 1) T.a__is_value_within T.d__is_value_within ["value", "depth"] (spW K n) := by
  intro n
  induction n with
  | zero => exact T.F__is_value_within.ok sc__is_value_within (fun vs H Q E h => h.elim) (fun cdv A outer s H vs Q E hr h => h.elim)
  | succ n ih__is_value_within =>
    refine T.F__is_value_within.ok sc__is_value_within (fun vs H Q E h => ?_) (fun cdv A outer s H vs Q E hr h => ?_)
    · obtain ⟨v, d, rfl, _⟩ := h
      rfl
    · obtain ⟨v, d, rfl, hn, hd, hf, q⟩ := h
      refine ⟨_, (pss_cons (ps_if (PW.pt (pw_or (pt_cmpR op_isN (pv 0) pe_non (nomark _)) (pw_or1 (pt_val (pe_callB call_isi (by rfl) T.n_isinstance (by decide +kernel) (pa_cons (pv 0) (pa_cons (pe_bltn (v := .ty "bool") (u := .type "bool") (by rfl) T.n_bool (by decide +kernel) rfl) pa_nil))))))) (pss_one (ps_ret pe_bl)) pss_nil)
      (pss_cons (ps_if (pt_val (pe_callB call_isi (by rfl) T.n_isinstance (by decide +kernel) (pa_cons (pv 0) (pa_cons (pe_bltn (v := .ty "int") (u := .type "int") (by rfl) T.n_int (by decide +kernel) rfl) pa_nil)))) (pss_one (ps_ret (pe_cmpR op_le (pe_bits (pv 0)) (pe_glob (v := .int 3000) (by rfl) T.c_MOST_BITS ⟨_, rfl⟩) (nomark _)))) pss_nil)
      (pss_cons (ps_if (pt_val (pe_callB call_isi (by rfl) T.n_isinstance (by decide +kernel) (pa_cons (pv 0) (pa_cons (pe_bltn (v := .ty "str") (u := .type "str") (by rfl) T.n_str (by decide +kernel) rfl) pa_nil)))) (pss_one (ps_ret (pe_and (pe_cmpR op_le (pe_callB call_len (by rfl) T.n_len PySem.boot_len (pa_cons (pv 0) pa_nil)) (pe_glob (v := .int 60000) (by rfl) T.c_MOST_LENGTH ⟨_, rfl⟩) (nomark _)) (pe_one (pe_call (ok_has_plain_characters T) (hr.mono (by omega)) (by rfl) T.g_has_plain_characters T.F_has_plain_characters.kp T.b_has_plain_characters .nil pass0 (pa_cons (pv 0) pa_nil)))))) pss_nil)
      (pss_cons (ps_if (PW.pt (pw_or (pt_not (pt_val (pe_callB call_isi (by rfl) T.n_isinstance (by decide +kernel) (pa_cons (pv 0) (pa_cons (pe_bltn (v := .ty "tuple") (u := .type "tuple") (by rfl) T.n_tuple (by decide +kernel) rfl) pa_nil))))) (pw_or (pt_cmpR op_eq (pv 1) (pe_glob (v := .int 20) (by rfl) T.c_MOST_DEPTH ⟨_, rfl⟩) (nomark _)) (pw_or1 (pt_cmpR op_gt (pe_callB call_len (by rfl) T.n_len PySem.boot_len (pa_cons (pv 0) pa_nil)) (pe_glob (v := .int 60000) (by rfl) T.c_MOST_LENGTH ⟨_, rfl⟩) (nomark _)))))) (pss_one (ps_ret pe_bl)) pss_nil)
      (pss_cons (ps_for PassesOwn.never rfl (pi_tup (pv 0)) (pg_name (i := 2) sc__is_value_within.nd rfl (Or.inl rfl))
        (pss_one (ps_if (pt_not (pt_val (pe_call ih__is_value_within (hr.mono (by omega)) (by rfl) T.g__is_value_within T.F__is_value_within.kp T.b__is_value_within .nil pass0 (pa_cons (pv 2) (pa_cons (pe_op op_add (pv 1) pe_int) pa_nil))))) (pss_one (ps_ret pe_bl)) pss_nil)))
      (pss_one (ps_ret pe_bl))))))), ?_⟩
      dsimp only [tNext, tSeq, tIfS]
      refine or_use (x := decide (v = .non)) (y := isK (kindOf d) "bool") (fun R r => ⟨_, rfl, rfl, _, rfl, r⟩) (fun R r => tisi rfl hd r) ?_
      cases hd with
      | non =>
        rw [okV_non] at q
        exact ifbt rfl q
      | bl b =>
        rw [okV_bl] at q
        exact ifbt rfl q
      | int i =>
        rw [okV_int] at q
        refine ifbf rfl (tisi rfl (.int i) (ifbt rfl ?_))
        exact ⟨_, rfl, i, rfl, _, _, rfl, rfl, q⟩
      | str x =>
        rw [okV_str] at q
        have hx := fits_str hf
        refine ifbf rfl (tisi rfl (.str x) (ifbf rfl (tisi rfl (.str x) (ifbt rfl ?_))))
        refine ⟨_, rfl, _, _, rfl, ⟨sz (by omega), rfl⟩, _, _, rfl, rfl, _, rfl, ?_⟩
        by_cases hc : ((x.length : Nat) : Int) ≤ 60000
        · rw [decide_eq_true hc, Bool.true_and] at q
          exact ift hc ⟨_, rfl, x, rfl, by omega, q⟩
        · rw [decide_eq_false hc, Bool.false_and] at q
          exact iff0 hc q
      | lst h a =>
        rw [okV_lst] at q
        refine ifbf rfl (tisi rfl (.lst h a) (ifbf rfl (tisi rfl (.lst h a) (ifbf rfl ?_))))
        exact tisi rfl (.lst h a) ((if_pos rfl).mpr (ifbt rfl q))
      | @tup p xs ds h a =>
        obtain ⟨hl, hfa⟩ := fits_tup hf
        have hxl := dpa_len a
        refine ifbf rfl (tisi rfl (.tup h a) (ifbf rfl (tisi rfl (.tup h a) (ifbf rfl ?_))))
        refine or_use (x := false) (y := decide (n = 0) || decide ((ds.length : Int) > 60000)) (fun R r => tisi rfl (.tup h a) r) (fun R r => or_use (x := decide (n = 0)) (y := decide ((ds.length : Int) > 60000)) (fun R r => ⟨_, rfl, rfl, _, rfl, ?_⟩) (fun R r => ⟨_, rfl, _, _, rfl, .inr ⟨_, h, rfl⟩, _, _, rfl, rfl, _, rfl, ?_⟩) r) ?_
        · by_cases e : n = 0
          · rw [decide_eq_true e] at r
            rw [decide_eq_true (by rw [e]; rfl)]
            exact r
          · rw [decide_eq_false e] at r
            rw [decide_eq_false (fun z => e (by have := V.int.inj z; omega))]
            exact r
        · rw [hxl]
          exact r
        cases n with
        | zero =>
          rw [okV_tup0] at q
          exact ifbt rfl q
        | succ m =>
          rw [okV_tup] at q
          have e20 : (20 : Int) - ((m + 1 : Nat) : Int) + 1 = 20 - (m : Int) := by omega
          by_cases hl2 : ds.length ≤ 60000
          · rw [decide_eq_true hl2, Bool.true_and] at q
            refine ifbf (by simp; omega) ?_
            refine ⟨_, rfl, p, rfl, ⟨_, h⟩, for_tup (K := K) (a := p) (xs := xs) (fun i σ G => H = G ∧ okA m (ds.take i) = true ∧ ∃ x2, σ = [some (.ref p), some (.int (20 - ((m + 1 : Nat) : Int))), x2]) ⟨rfl, by simp [okA], none, rfl⟩ (fun i σ G _ ⟨e, _⟩ => by rw [← e]; exact h) ?_ ?_⟩
            · rintro i x σ _ hx ⟨rfl, hok, x2, rfl⟩
              obtain ⟨d, hdi, hdx⟩ := dpa_at a hx
              refine ⟨_, rfl, _, rfl, _, _, rfl, rfl, x, d, congrArg (fun z => [x, V.int z]) e20, by omega, hdx, fitsA_at hfa hdi, _, rfl, ?_⟩
              cases ed : okV m d with
              | true => exact ifbf rfl ⟨rfl, by rw [okA_take hdi, hok, ed]; rfl, _, rfl⟩
              | false =>
                rw [okA_no hdi ed] at q
                exact ifbt rfl q
            · rintro σ _ ⟨rfl, hok, x2, rfl⟩
              rw [hxl, List.take_length] at hok
              rw [hok] at q
              exact q
          · rw [decide_eq_false hl2, Bool.false_and] at q
            exact ifbt (by simp; omega) q
theorem ok__is_value_within (T : TX K mg) : FnOk P w K mg base CX0 (22) T.a__is_value_within T.d__is_value_within ["value", "depth"] (spW K 21) := okn__is_value_within T 21
theorem ok_is_value (T : TX K mg) : FnOk P w K mg base CX0 23 T.a_is_value T.d_is_value ["value"] (sp_isv K) := by
  refine T.F_is_value.ok sc_is_value (fun vs H Q E h => ?_) (fun cdv A outer s H vs Q E hr h => ?_)
  · obtain ⟨v, d, rfl, _⟩ := h
    rfl
  · obtain ⟨v, d, rfl, hd, hf, q⟩ := h
    refine ⟨_, (pss_one (ps_ret (pe_call (ok__is_value_within T) (hr.mono (by decide)) (by rfl) T.g__is_value_within T.F__is_value_within.kp T.b__is_value_within .nil pass0 (pa_cons (pv 0) (pa_cons pe_int pa_nil))))), ?_⟩
    exact ⟨_, rfl, v, d, rfl, by decide, hd, hf, q⟩
end
theorem bits_lt {i : Int} (h : ((Builtin.Int.intBits i : Nat) : Int) ≤ 3000) : i.natAbs < Lim := by
  unfold Builtin.Int.intBits at h
  have hL : 2 ^ 3000 ≤ Lim := by
    have : Lim = 2 ^ 3500 := by
      unfold Lim
      rw [show (128 : Nat) = 2 ^ 7 by decide, ← Nat.pow_mul]
    rw [this]
    exact Nat.pow_le_pow_right (by decide) (by decide)
  by_cases h0 : i = 0
  · rw [h0]
    exact Nat.lt_of_lt_of_le (Nat.pow_pos (by decide)) hL
  · have hb : (i == 0) = false := by simpa using h0
    rw [hb] at h
    simp only [Bool.false_eq_true, if_false] at h
    have h1 : i.natAbs.log2 < 3000 := by omega
    exact Nat.lt_of_lt_of_le ((Nat.log2_lt (by omega)).mp h1) hL
theorem enc_small_lim {n : Nat} (h : n ≤ 90000) : n < Lim := Nat.lt_of_le_of_lt h (by
  have : (2 : Nat) ^ 17 ≤ Lim := by
    have : Lim = 2 ^ 3500 := by
      unfold Lim
      rw [show (128 : Nat) = 2 ^ 7 by decide, ← Nat.pow_mul]
    rw [this]
    exact Nat.pow_le_pow_right (by decide) (by decide)
  exact Nat.lt_of_lt_of_le (by decide) this)
def spP (K : PySem.W.Frag) : Nat → Sp
  | 0 => fun _ _ _ _ => False
  | n + 1 => fun vs H Q _ => ∃ (v : V) (d : PyData), vs = [v] ∧ Dp K H v d ∧ okV n d = true ∧ (pkL d).length ≤ 90000 ∧ ∀ p H', H p = none → Same H H' → H' p = some (.lst ((pkL d).map V.int)) → Q (.ref p) H'
theorem none_of {H G : Hp} {p : Addr} (s : Same H G) (h : G p = none) : H p = none := by
  cases e : H p with
  | none => rfl
  | some o => rw [s _ _ e] at h; cases h
/-- a list that is made of a list's head and more -/
theorem cat_new {H : Hp} {a b : Addr} {xs ys : List V} {Q : VK} (ha : H a = some (.lst xs)) (hb : H b = some (.lst ys)) (hl : xs.length + ys.length ≤ 100000) (q : ∀ p, H p = none → Q (.ref p) (upd H p (.lst (xs ++ ys)))) : rCat (.ref a) (.ref b) H Q := ⟨a, b, xs, ys, rfl, rfl, ha, hb, sz hl, q⟩
section
variable {P : Program} {w : World} {K : PySem.W.Frag} {mg : Str → Option Value} {base : Heap}
theorem okn__packed (T : TX K mg) : ∀ n : Nat, FnOk P w K mg base CX0 (n + 1) T.a__packed T.d__packed ["value"] (spP K n) := by
  intro n
  induction n with
  | zero => exact T.F__packed.ok sc__packed (fun vs H Q E h => h.elim) (fun cdv A outer s H vs Q E hr h => h.elim)
  | succ n ih__packed =>
    refine T.F__packed.ok sc__packed (fun vs H Q E h => ?_) (fun cdv A outer s H vs Q E hr h => ?_)
    · obtain ⟨v, d, rfl, _⟩ := h
      rfl
    · obtain ⟨v, d, rfl, hd, hok, hl, q⟩ := h
      refine ⟨_, (pss_cons (ps_if (pt_cmpR op_isN (pv 0) pe_non (nomark _)) (pss_one (ps_ret (pe_lst (pa_cons pe_int pa_nil)))) pss_nil)
      (pss_cons (ps_if (pt_val (pe_callB call_isi (by rfl) T.n_isinstance (by decide +kernel) (pa_cons (pv 0) (pa_cons (pe_bltn (v := .ty "bool") (u := .type "bool") (by rfl) T.n_bool (by decide +kernel) rfl) pa_nil)))) (pss_one (ps_ret (pe_lst (pa_cons (pe_ifExp (pt_val (pv 0)) (pe_glob (v := .int 2) (by rfl) T.c_TRUE_TAG ⟨_, rfl⟩) (pe_glob (v := .int 1) (by rfl) T.c_FALSE_TAG ⟨_, rfl⟩)) pa_nil)))) pss_nil)
      (pss_cons (ps_if (pt_val (pe_callB call_isi (by rfl) T.n_isinstance (by decide +kernel) (pa_cons (pv 0) (pa_cons (pe_bltn (v := .ty "int") (u := .type "int") (by rfl) T.n_int (by decide +kernel) rfl) pa_nil)))) (pss_cons (ps_if (pt_cmpR op_lt (pv 0) pe_int (nomark _)) (pss_one (ps_ret (pe_op op_cat (pe_lst (pa_cons (pe_glob (v := .int 4) (by rfl) T.c_NEGATIVE_TAG ⟨_, rfl⟩) pa_nil)) (pe_call (ok_put_number T) (hr.mono (by omega)) (by rfl) T.g_put_number T.F_put_number.kp T.b_put_number .nil pass0 (pa_cons (pe_op op_sub (pe_un un_neg pe_int) (pv 0)) pa_nil))))) pss_nil)
        (pss_one (ps_ret (pe_op op_cat (pe_lst (pa_cons (pe_glob (v := .int 3) (by rfl) T.c_NATURAL_TAG ⟨_, rfl⟩) pa_nil)) (pe_call (ok_put_number T) (hr.mono (by omega)) (by rfl) T.g_put_number T.F_put_number.kp T.b_put_number .nil pass0 (pa_cons (pv 0) pa_nil)))))) pss_nil)
      (pss_cons (ps_if (pt_val (pe_callB call_isi (by rfl) T.n_isinstance (by decide +kernel) (pa_cons (pv 0) (pa_cons (pe_bltn (v := .ty "str") (u := .type "str") (by rfl) T.n_str (by decide +kernel) rfl) pa_nil)))) (pss_one (ps_ret (pe_op op_cat (pe_op op_cat (pe_lst (pa_cons (pe_glob (v := .int 5) (by rfl) T.c_TEXT_TAG ⟨_, rfl⟩) pa_nil)) (pe_call (ok_put_number T) (hr.mono (by omega)) (by rfl) T.g_put_number T.F_put_number.kp T.b_put_number .nil pass0 (pa_cons (pe_callB call_len (by rfl) T.n_len PySem.boot_len (pa_cons (pv 0) pa_nil)) pa_nil))) (pe_lc (own := [("character", 3)]) (g := gName 3) (tt := tYes) (by rfl) sc__packed.nd (pi_str (pv 0)) (blkOk_by (own := [("character", 3)]) (N := ["value", "row", "member", "character"]) (sc := defScope s__packed) (by decide +kernel)) (fun _ _ _ _ _ => pg_name (i := 3) sc__packed.nd rfl (Or.inl rfl)) (fun _ _ _ _ _ => pts_nil) (fun _ _ _ _ _ => (pe_op op_sub (pe_callB call_ord (by rfl) T.n_ord (by decide +kernel) (pa_cons (pv 3) pa_nil)) (pe_glob (v := .int 32) (by rfl) T.c_SPACE ⟨_, rfl⟩))))))) pss_nil)
      (pss_cons (ps_set (i := 1) sc__packed.nd rfl (Or.inl rfl) (pe_op op_cat (pe_lst (pa_cons (pe_glob (v := .int 6) (by rfl) T.c_TUPLE_TAG ⟨_, rfl⟩) pa_nil)) (pe_call (ok_put_number T) (hr.mono (by omega)) (by rfl) T.g_put_number T.F_put_number.kp T.b_put_number .nil pass0 (pa_cons (pe_callB call_len (by rfl) T.n_len PySem.boot_len (pa_cons (pv 0) pa_nil)) pa_nil))))
      (pss_cons (ps_for PassesOwn.never rfl (pi_tup (pv 0)) (pg_name (i := 2) sc__packed.nd rfl (Or.inl rfl))
        (pss_one (ps_expr (pe_bm PySem.F.plainAttrs_list PySem.F.slot_list_extend PySem.F.type_list_extend mt_extend (pv 1) (pa_cons (pe_call ih__packed (hr.mono (by omega)) (by rfl) T.g__packed T.F__packed.kp T.b__packed .nil pass0 (pa_cons (pv 2) pa_nil)) pa_nil)))))
      (pss_one (ps_ret (pv 1))))))))), ?_⟩
      refine ⟨_, rfl, rfl, _, rfl, ?_⟩
      cases hd with
      | non =>
        refine ifbt rfl ⟨(by show 1 ≤ sizeLine; decide), fun p hp => q p _ hp (same_upd hp) ?_⟩
        rw [upd_same]; rfl
      | bl b =>
        refine ifbf rfl (tisi rfl (.bl b) (ifbt rfl ?_))
        refine ⟨_, rfl, b, rfl, ?_⟩
        cases b with
        | true =>
          refine (if_pos rfl).mpr ⟨(by show 1 ≤ sizeLine; decide), fun p hp => q p _ hp (same_upd hp) ?_⟩
          rw [upd_same]; rfl
        | false =>
          refine (if_neg (by decide)).mpr ⟨(by show 1 ≤ sizeLine; decide), fun p hp => q p _ hp (same_upd hp) ?_⟩
          rw [upd_same]; rfl
      | int i =>
        rw [okV_int] at hok
        have hb := bits_lt (of_decide_eq_true hok)
        refine ifbf rfl (tisi rfl (.int i) (ifbf rfl (tisi rfl (.int i) (ifbt rfl ?_))))
        refine ⟨_, rfl, _, _, rfl, rfl, _, rfl, ifd (fun hn => ?_) (fun hn => ?_)⟩
        · refine ⟨(by show 1 ≤ sizeLine; decide), fun a ha => ?_⟩
          have s1 := same_upd (o := .lst [.int 4]) ha
          refine ⟨1, rfl, _, rfl, _, _, rfl, rfl, (-1 - i).toNat, congrArg (fun z => [V.int z]) (by omega), by omega, fun b G hbn s2 eb => ?_⟩
          have ea := s2 _ _ (upd_same (H := H) (a := a) (o := .lst [.int 4]))
          have hel := enc_lim (show (-1 - i).toNat < Lim by omega)
          refine cat_new ea eb (by rw [List.length_map]; simp only [List.length_cons, List.length_nil]; omega) fun p hp => q p _ ?_ ((s1.trans s2).trans (same_upd hp)) ?_
          · exact none_of (s1.trans s2) hp
          · rw [upd_same]
            have : pkL (.int i) = 4 :: enc (-1 - i).toNat := by simp [pkL, hn]
            rw [this]
            rfl
        · refine ⟨(by show 1 ≤ sizeLine; decide), fun a ha => ?_⟩
          have s1 := same_upd (o := .lst [.int 3]) ha
          refine ⟨_, rfl, i.toNat, congrArg (fun z => [V.int z]) (by omega), by omega, fun b G hbn s2 eb => ?_⟩
          have ea := s2 _ _ (upd_same (H := H) (a := a) (o := .lst [.int 3]))
          have hel := enc_lim (show i.toNat < Lim by omega)
          refine cat_new ea eb (by rw [List.length_map]; simp only [List.length_cons, List.length_nil]; omega) fun p hp => q p _ (none_of (s1.trans s2) hp) ((s1.trans s2).trans (same_upd hp)) ?_
          rw [upd_same]
          have : pkL (.int i) = 3 :: enc i.toNat := by simp [pkL, hn]
          rw [this]
          rfl
      | str x =>
        rw [okV_str] at hok
        obtain ⟨hx1, hx2⟩ := Bool.and_eq_true_iff.mp hok
        have hx : x.length ≤ 60000 := by have := of_decide_eq_true hx1; omega
        refine ifbf rfl (tisi rfl (.str x) (ifbf rfl (tisi rfl (.str x) (ifbf rfl (tisi rfl (.str x) (ifbt rfl ?_))))))
        refine ⟨(by show 1 ≤ sizeLine; decide), fun a ha => ?_⟩
        have s1 := same_upd (o := .lst [.int 5]) ha
        refine ⟨_, rfl, _, _, rfl, ⟨sz (by omega), rfl⟩, x.length, rfl, enc_small_lim (by omega), fun b G hbn s2 eb => ?_⟩
        have ea := s2 _ _ (upd_same (H := H) (a := a) (o := .lst [.int 5]))
        have hel := enc_lim (enc_small_lim (show x.length ≤ 90000 by omega))
        refine cat_new ea eb (by rw [List.length_map]; simp only [List.length_cons, List.length_nil]; omega) fun p hp => ?_
        have s3 := (s1.trans s2).trans (same_upd (o := .lst ([V.int 5] ++ (enc x.length).map V.int)) hp)
        have ep : (upd G p (.lst ([V.int 5] ++ (enc x.length).map V.int))) p = some (.lst ([V.int 5] ++ (enc x.length).map V.int)) := upd_same
        generalize upd G p (.lst ([V.int 5] ++ (enc x.length).map V.int)) = G1 at s3 ep
        refine ⟨_, rfl, x, rfl, fun D hD => ?_⟩
        refine lc_it walk_str (fun i G => Same G1 G ∧ G D = some (.lst (((x.cps.toList.take i).map fun (c : Nat) => (c : Int) - 32).map V.int))) ⟨same_upd hD, upd_same⟩ (fun _ _ _ _ => trivial) ?_ ?_
        · rintro i y G2 G3 hi ⟨s4, e4⟩ ⟨rfl, c, hc, rfl⟩
          refine ⟨rfl, ?_⟩
          dsimp only [tYes]
          refine (if_pos rfl).mpr ?_
          have hxl : x.cps.toList.length ≤ 60000 := by rw [← zlen]; exact hx
          refine ⟨_, rfl, _, rfl, rfl, _, _, rfl, rfl, _, e4, szl (by rw [List.length_map, List.length_map, List.length_take]; omega), same_put s4 hD, ?_⟩
          rw [upd_same, take_more (cps_at hc), List.map_append, List.map_append]
          rfl
        · rintro G2 ⟨s4, e4⟩
          rw [sizeL, List.take_length] at e4
          have hxl : x.cps.toList.length ≤ 60000 := by rw [← zlen]; exact hx
          refine cat_new (s4 _ _ ep) e4 (by simp only [List.length_map, List.length_append, List.length_cons, List.length_nil]; omega) fun p2 hp2 => q p2 _ (none_of (s3.trans s4) hp2) ((s3.trans s4).trans (same_upd hp2)) ?_
          rw [upd_same]
          simp [pkL]
      | lst h a => rw [okV_lst] at hok; cases hok
      | @tup p xs ds h a =>
        cases n with
        | zero => rw [okV_tup0] at hok; cases hok
        | succ m =>
          rw [okV_tup] at hok
          obtain ⟨hl1, hoa⟩ := Bool.and_eq_true_iff.mp hok
          have hdl : ds.length ≤ 60000 := of_decide_eq_true hl1
          have hxl := dpa_len a
          have hpk : pkL (.tuple ds) = 6 :: (enc ds.length ++ pkA ds) := by simp [pkL]
          rw [hpk] at hl q
          have hl2 : (pkA ds).length + (enc ds.length).length + 1 ≤ 90000 := by
            simp only [List.length_cons, List.length_append] at hl
            omega
          refine ifbf rfl (tisi rfl (.tup h a) (ifbf rfl (tisi rfl (.tup h a) (ifbf rfl (tisi rfl (.tup h a) (ifbf rfl ?_))))))
          refine ⟨(by show 1 ≤ sizeLine; decide), fun a1 ha => ?_⟩
          have s1 := same_upd (o := .lst [.int 6]) ha
          refine ⟨_, rfl, _, _, rfl, .inr ⟨_, sqt_same s1 h, rfl⟩, ds.length, by rw [hxl]; rfl, enc_small_lim (by omega), fun b G hbn s2 eb => ?_⟩
          have ea := s2 _ _ (upd_same (H := H) (a := a1) (o := .lst [.int 6]))
          have hel := enc_lim (enc_small_lim (show ds.length ≤ 90000 by omega))
          refine cat_new ea eb (by rw [List.length_map]; simp only [List.length_cons, List.length_nil]; omega) fun r hr1 => ?_
          have s3 := (s1.trans s2).trans (same_upd (o := .lst ([V.int 6] ++ (enc ds.length).map V.int)) hr1)
          have er : (upd G r (.lst ([V.int 6] ++ (enc ds.length).map V.int))) r = some (.lst ((6 :: enc ds.length).map V.int)) := upd_same
          have hrH := none_of (s1.trans s2) hr1
          generalize upd G r (.lst ([V.int 6] ++ (enc ds.length).map V.int)) = G1 at s3 er
          refine ⟨_, rfl, p, rfl, ⟨_, sqt_same s3 h⟩, for_tup (K := K) (a := p) (xs := xs) (fun i σ G => ∃ x2, σ = [some (.ref p), some (.ref r), x2, none] ∧ Same H G ∧ G r = some (.lst (((6 :: enc ds.length) ++ pkA (ds.take i)).map V.int))) ⟨none, rfl, s3, by rw [er]; simp [pkA]⟩ (fun i σ G _ ⟨_, _, s, _⟩ => sqt_same s h) ?_ ?_⟩
          · rintro i x σ G2 hx ⟨x2, rfl, s4, e4⟩
            obtain ⟨d, hdi, hdx⟩ := dpa_at a hx
            have hat := pkL_at hdi
            refine ⟨_, rfl, .inl ⟨rfl, _, sql e4⟩, _, rfl, x, d, rfl, dp_same s4 _ hdx, okA_at hoa hdi, by omega, fun b2 G3 hb2 s5 e5 => ?_⟩
            have e6 := s5 _ _ e4
            refine ⟨r, b2, _, _, rfl, rfl, e6, e5, sz (by simp only [List.length_map, List.length_append, List.length_cons]; omega), ?_⟩
            refine ⟨_, rfl, same_put (s4.trans s5) hrH, ?_⟩
            rw [upd_same, pkA_take hdi, ← List.map_append, List.append_assoc]
          · rintro σ G2 ⟨x2, rfl, s4, e4⟩
            rw [hxl, List.take_length] at e4
            exact ⟨_, rfl, q r G2 hrH s4 (by rw [e4]; rfl)⟩
theorem ok__packed (T : TX K mg) : FnOk P w K mg base CX0 (22) T.a__packed T.d__packed ["value"] (spP K 21) := okn__packed T 21
end
/-! reading a value: the mirror -/
inductive TR where
  | ok (d : PyData) (n : Nat)
  | trunc
  | malf
inductive T3 where
  | ok (cs : List Nat)
  | trunc
  | malf
def txF : Nat → List Int → List Nat → T3
  | 0, _, acc => .ok acc
  | _ + 1, [], _ => .trunc
  | k + 1, b :: bs, acc => if 95 ≤ b ∨ b = 5 then .malf else txF k bs (acc ++ [(b + 32).toNat])
def memF (f : List Int → TR) : Nat → List Int → List PyData → Nat → TR
  | 0, _, acc, n => .ok (.tuple acc) n
  | k + 1, bs, acc, n => match f bs with
    | .ok d c => memF f k (bs.drop c) (acc ++ [d]) (n + c)
    | .trunc => .trunc
    | .malf => .malf
def TR.shift (j : Nat) : TR → TR
  | .ok d n => .ok d (n + j)
  | .trunc => .trunc
  | .malf => .malf
theorem memF_shift (f : List Int → TR) (j : Nat) : ∀ (k : Nat) (bs : List Int) (acc : List PyData) (n : Nat), memF f k bs acc (n + j) = (memF f k bs acc n).shift j := by
  intro k
  induction k with
  | zero => intro bs acc n; rfl
  | succ k ih =>
    intro bs acc n
    unfold memF
    cases f bs with
    | ok d c =>
      show memF f k (bs.drop c) (acc ++ [d]) (n + j + c) = _
      rw [show n + j + c = n + c + j by omega]
      exact ih _ _ _
    | trunc => rfl
    | malf => rfl
def constD (t : Int) : PyData := if t = 0 then .none else .bool (decide (t = 2))
def chkI (i : Int) (k : Nat) : TR := if bitsOk i = true then .ok (.int i) k else .malf
def tvT (r : T3) (k : Nat) : TR := match r with
  | .ok cs => .ok (.str ⟨cs.toArray⟩) k
  | .trunc => .trunc
  | .malf => .malf
def tvM (mm : Option (List Int → TR)) (n : Nat) (bs : List Int) (k : Nat) : TR := match mm with
  | some f => memF f n bs [] k
  | none => .malf
def tvC (mm : Option (List Int → TR)) (t : Int) (r : List Int) : TR := if 6 < t then .malf else if t ≤ 2 then .ok (constD t) 1 else if t = 6 ∧ mm.isNone = true then .malf else
    match rd r with
    | .trunc => .trunc
    | .malf => .malf
    | .num n c => if t = 3 then chkI n (1 + c) else if t = 4 then chkI (-1 - n) (1 + c) else if 60000 < n then .malf
      else if t = 5 then tvT (txF n.toNat (r.drop c) []) (1 + c + n.toNat)
      else tvM mm n.toNat (r.drop c) (1 + c)
def tvB (mm : Option (List Int → TR)) : List Int → TR
  | [] => .trunc
  | t :: r => tvC mm t r
def tv : Nat → List Int → TR
  | 0 => tvB none
  | m + 1 => tvB (some (tv m))
theorem rdGo_len : ∀ (f c : Nat) (acc : Int) (bs : List Int) (n : Int) (k : Nat), rdGo f c acc bs = .num n k → k ≤ c + bs.length ∧ c < k
  | 0, _, _, _, _, _, h => by cases h
  | _ + 1, _, _, [], _, _, h => by cases h
  | f + 1, c, acc, b :: bs, n, k, h => by
    unfold rdGo at h
    split at h
    · split at h
      · cases h
      · injection h with h1 h2
        rw [List.length_cons]
        omega
    · have := rdGo_len f (c + 1) _ bs n k h
      rw [List.length_cons]
      omega
theorem rdGo_nn : ∀ (f c : Nat) (acc : Int) (bs : List Int) (n : Int) (k : Nat), Bytes bs → 0 ≤ acc → rdGo f c acc bs = .num n k → 0 ≤ n
  | 0, _, _, _, _, _, _, _, h => by cases h
  | _ + 1, _, _, [], _, _, _, _, h => by cases h
  | f + 1, c, acc, b :: bs, n, k, hb, h0, h => by
    have hb0 := hb b List.mem_cons_self
    have hp : (0 : Int) < 128 ^ c := Int.pow_pos (by decide)
    unfold rdGo at h
    split at h
    · split at h
      · cases h
      · injection h with h1 h2
        have := Int.mul_nonneg hb0.1 (Int.le_of_lt hp)
        omega
    · have := Int.mul_nonneg (show (0 : Int) ≤ b - 128 by omega) (Int.le_of_lt hp)
      exact rdGo_nn f (c + 1) _ bs n k (fun x hx => hb x (List.mem_cons_of_mem _ hx)) (by omega) h
theorem txF_len : ∀ (k : Nat) (bs : List Int) (acc cs : List Nat), txF k bs acc = .ok cs → k ≤ bs.length
  | 0, _, _, _, _ => Nat.zero_le _
  | _ + 1, [], _, _, h => by cases h
  | k + 1, b :: bs, acc, cs, h => by
    unfold txF at h
    split at h
    · cases h
    · have := txF_len k bs _ cs h
      rw [List.length_cons]
      omega
theorem memF_len {f : List Int → TR} (hf : ∀ bs d k, f bs = .ok d k → k ≤ bs.length) : ∀ (k : Nat) (bs : List Int) (acc : List PyData) (n : Nat) (d : PyData) (j : Nat), memF f k bs acc n = .ok d j → j ≤ n + bs.length
  | 0, _, _, _, _, _, h => by
    injection h with h1 h2
    omega
  | k + 1, bs, acc, n, d, j, h => by
    unfold memF at h
    cases e : f bs with
    | ok d2 c =>
      rw [e] at h
      have h1 := hf bs d2 c e
      have h2 := memF_len hf k (bs.drop c) _ _ d j h
      rw [List.length_drop] at h2
      omega
    | trunc => rw [e] at h; cases h
    | malf => rw [e] at h; cases h
theorem tvB_len {mm : Option (List Int → TR)} (hm : ∀ f, mm = some f → ∀ bs d k, f bs = .ok d k → k ≤ bs.length) : ∀ (bs : List Int) (d : PyData) (k : Nat), tvB mm bs = .ok d k → k ≤ bs.length
  | [], _, _, h => by cases h
  | t :: r, d, k, h => by
    rw [List.length_cons]
    have h : tvC mm t r = .ok d k := h
    unfold tvC at h
    split at h
    · cases h
    split at h
    · injection h with h1 h2
      omega
    split at h
    · cases h
    cases e : rd r with
    | trunc => rw [e] at h; cases h
    | malf => rw [e] at h; cases h
    | num n c =>
      rw [e] at h
      have hc := (rdGo_len 500 0 0 r n c e).1
      simp only at h
      split at h
      · unfold chkI at h
        split at h
        · injection h with h1 h2; omega
        · cases h
      split at h
      · unfold chkI at h
        split at h
        · injection h with h1 h2; omega
        · cases h
      split at h
      · cases h
      split at h
      · cases e2 : txF n.toNat (r.drop c) [] with
        | ok cs =>
          rw [e2] at h
          unfold tvT at h
          have := txF_len _ _ _ _ e2
          rw [List.length_drop] at this
          injection h with h1 h2
          omega
        | trunc => rw [e2] at h; cases h
        | malf => rw [e2] at h; cases h
      · cases mm with
        | none => cases h
        | some f =>
          have := memF_len (hm f rfl) _ _ _ _ d k h
          rw [List.length_drop] at this
          omega
theorem tv_len : ∀ (m : Nat) (bs : List Int) (d : PyData) (k : Nat), tv m bs = .ok d k → k ≤ bs.length
  | 0 => tvB_len (fun f h => by cases h)
  | m + 1 => tvB_len (fun f h => by injection h with h; subst h; exact tv_len m)
/-! what is read is a value -/
theorem txF_ok : ∀ (k : Nat) (bs : List Int) (acc cs : List Nat), Bytes bs → (∀ c ∈ acc, plainC c = true) → txF k bs acc = .ok cs → (∀ c ∈ cs, plainC c = true) ∧ cs.length = acc.length + k
  | 0, _, acc, cs, _, h0, h => by
    injection h with h
    subst h
    exact ⟨h0, rfl⟩
  | _ + 1, [], _, _, _, _, h => by cases h
  | k + 1, b :: bs, acc, cs, hb, h0, h => by
    unfold txF at h
    split at h
    · cases h
    · rename_i hx
      have hb0 := hb b List.mem_cons_self
      obtain ⟨h1, h2⟩ := txF_ok k bs _ cs (fun x hx => hb x (List.mem_cons_of_mem _ hx)) (fun c hc => by
        rcases List.mem_append.mp hc with z | z
        · exact h0 c z
        · rw [List.mem_singleton] at z
          rw [z]
          unfold plainC
          have e1 : ¬ (b + 32).toNat < 32 := by omega
          have e2 : ¬ 126 < (b + 32).toNat := by omega
          have e3 : ¬ (b + 32).toNat = 37 := by omega
          simp [e1, e2, e3]) h
      exact ⟨h1, by rw [h2, List.length_append]; simp only [List.length_cons, List.length_nil]; omega⟩
theorem okA_app {n : Nat} : ∀ {ds : List PyData} {d : PyData}, okA n ds = true → okV n d = true → okA n (ds ++ [d]) = true
  | [], d, _, h => by simp [okA, h]
  | e :: ds, d, h, h2 => by
    simp only [okA, Bool.and_eq_true] at h
    show okA n (e :: (ds ++ [d])) = true
    simp only [okA, Bool.and_eq_true]
    exact ⟨h.1, okA_app h.2 h2⟩
theorem bytes_drop {bs : List Int} (c : Nat) (h : Bytes bs) : Bytes (bs.drop c) := fun b hb => h b (List.mem_of_mem_drop hb)
theorem memF_ok {f : List Int → TR} {m : Nat} (hf : ∀ bs d k, Bytes bs → f bs = .ok d k → okV m d = true) : ∀ (k : Nat) (bs : List Int) (acc : List PyData) (n : Nat) (d : PyData) (j : Nat), Bytes bs → okA m acc = true → memF f k bs acc n = .ok d j → ∃ ds, d = .tuple ds ∧ okA m ds = true ∧ ds.length = acc.length + k
  | 0, _, acc, _, _, _, _, h0, h => by
    injection h with h1 h2
    exact ⟨acc, h1.symm, h0, rfl⟩
  | k + 1, bs, acc, n, d, j, hb, h0, h => by
    unfold memF at h
    cases e : f bs with
    | ok d2 c =>
      rw [e] at h
      obtain ⟨ds, h1, h2, h3⟩ := memF_ok hf k (bs.drop c) _ _ d j (bytes_drop c hb) (okA_app h0 (hf bs d2 c hb e)) h
      exact ⟨ds, h1, h2, by rw [h3, List.length_append]; simp only [List.length_cons, List.length_nil]; omega⟩
    | trunc => rw [e] at h; cases h
    | malf => rw [e] at h; cases h
theorem tvB_ok {mm : Option (List Int → TR)} {m : Nat} (hm : ∀ f, mm = some f → ∃ j, m = j + 1 ∧ ∀ bs d k, Bytes bs → f bs = .ok d k → okV j d = true) : ∀ (bs : List Int) (d : PyData) (k : Nat), Bytes bs → tvB mm bs = .ok d k → okV m d = true
  | [], _, _, _, h => by cases h
  | t :: r, d, k, hb, h => by
    have hbr : Bytes r := fun x hx => hb x (List.mem_cons_of_mem _ hx)
    have h : tvC mm t r = .ok d k := h
    unfold tvC at h
    split at h
    · cases h
    split at h
    · injection h with h1 h2
      rw [← h1]
      unfold constD
      split
      · exact okV_non m
      · exact okV_bl m _
    split at h
    · cases h
    cases e : rd r with
    | trunc => rw [e] at h; cases h
    | malf => rw [e] at h; cases h
    | num n c =>
      rw [e] at h
      simp only at h
      have hn := rdGo_nn 500 0 0 r n c hbr (by decide) e
      have chk : ∀ (i : Int) (j : Nat), chkI i j = .ok d k → okV m d = true := fun i j h => by
        unfold chkI at h
        split at h
        · rename_i hb
          injection h with h1 h2
          rw [← h1, okV_int]
          unfold bitsOk at hb
          exact decide_eq_true (by have := of_decide_eq_true hb; omega)
        · cases h
      split at h
      · exact chk _ _ h
      split at h
      · exact chk _ _ h
      split at h
      · cases h
      split at h
      · cases e2 : txF n.toNat (r.drop c) [] with
        | ok cs =>
          rw [e2] at h
          unfold tvT at h
          obtain ⟨h1, h2⟩ := txF_ok _ _ _ _ (bytes_drop c hbr) (fun c hc => by cases hc) e2
          injection h with h3 h4
          rw [← h3, okV_str]
          rw [List.length_nil, Nat.zero_add] at h2
          have hl : Str.length ⟨cs.toArray⟩ = cs.length := by show cs.toArray.size = _; simp
          rw [hl, h2, Bool.and_eq_true]
          refine ⟨decide_eq_true (by omega), ?_⟩
          unfold plainS
          rw [List.all_eq_true]
          exact fun x hx => h1 x (by simpa using hx)
        | trunc => rw [e2] at h; cases h
        | malf => rw [e2] at h; cases h
      · cases mm with
        | none => cases h
        | some f =>
          obtain ⟨j, hj, hf⟩ := hm f rfl
          obtain ⟨ds, h1, h2, h3⟩ := memF_ok hf _ _ _ _ d k (bytes_drop c hbr) (by simp [okA]) h
          rw [h1, hj, okV_tup, h2, Bool.and_true]
          refine decide_eq_true ?_
          rw [h3, List.length_nil]
          omega
theorem tv_ok : ∀ (m : Nat) (bs : List Int) (d : PyData) (k : Nat), Bytes bs → tv m bs = .ok d k → okV m d = true
  | 0 => tvB_ok (fun f h => by cases h)
  | m + 1 => tvB_ok (fun f h => ⟨m, rfl, by injection h with h; subst h; exact tv_ok m⟩)
/-! values hold no list: a list may change -/
mutual
theorem dp_off {K : PySem.W.Frag} {G G' : Hp} {o : Addr} {xs : List V} (e : G o = some (.lst xs)) (k : ∀ b w, b ≠ o → G b = some w → G' b = some w) : ∀ (n : Nat) (d : PyData) {v : V}, okV n d = true → Dp K G v d → Dp K G' v d
  | _, _, _, _, .non => .non
  | _, _, _, _, .bl b => .bl b
  | _, _, _, _, .int i => .int i
  | _, _, _, _, .str x => .str x
  | n, .list ds, _, h, .lst _ _ => by rw [okV_lst] at h; cases h
  | 0, .tuple ds, _, h, .tup _ _ => by rw [okV_tup0] at h; cases h
  | n + 1, .tuple ds, _, h, .tup s a => by
    rw [okV_tup, Bool.and_eq_true] at h
    refine .tup ?_ (dpa_off e k n ds h.2 a)
    rcases s with (s | ⟨ob, s⟩) | s
    · exact .inl (.inl (k _ _ (fun z => by rw [z, e] at s; cases s) s))
    · exact .inl (.inr ⟨ob, k _ _ (fun z => by rw [z, e] at s; cases s) s⟩)
    · exact .inr s
theorem dpa_off {K : PySem.W.Frag} {G G' : Hp} {o : Addr} {xs : List V} (e : G o = some (.lst xs)) (k : ∀ b w, b ≠ o → G b = some w → G' b = some w) : ∀ (n : Nat) (ds : List PyData) {vs : List V}, okA n ds = true → DpAll K G vs ds → DpAll K G' vs ds
  | _, [], _, _, .nil => .nil
  | n, d :: ds, _, h, .cons s a => by
    simp only [okA, Bool.and_eq_true] at h
    exact .cons (dp_off e k n d h.1 s) (dpa_off e k n ds h.2 a)
end
theorem joinL_nil : ∀ cs : List Nat, TL.joinL [] (cs.map fun c => [c]) = cs
  | [] => rfl
  | [c] => rfl
  | c :: d :: r => by
    show [c] ++ ([] ++ TL.joinL [] ((d :: r).map fun c => [c])) = _
    rw [joinL_nil (d :: r)]
    rfl
theorem join_signs (cs : List Nat) : Txt.join ("" : Str) (cs.map fun c => (⟨#[c]⟩ : Str)) = ⟨cs.toArray⟩ := by
  have h := SX.join_S [] (cs.map fun c => [c])
  rw [joinL_nil, List.map_map] at h
  have e : ("" : Str) = SX.S [] := by decide +kernel
  rw [e]
  exact h
theorem signs_len (cs : List Nat) : ((cs.map fun c => (⟨#[c]⟩ : Str)).map (·.length)).sum = cs.length := by
  induction cs with
  | nil => rfl
  | cons c cs ih => rw [List.map_cons, List.map_cons, List.sum_cons, ih, List.length_cons]; show 1 + _ = _; omega
theorem sign_len (c : Nat) : (⟨#[c]⟩ : Str).length = 1 := rfl
def chS : Str := " !\"#$ &'()*+,-./0123456789:;<=>?@ABCDEFGHIJKLMNOPQRSTUVWXYZ[\\]^_`abcdefghijklmnopqrstuvwxyz{|}~"
theorem ch_at : ∀ b : Nat, b < 95 → b ≠ 5 → chS.cps.toList[b]? = some (b + 32) := by decide +kernel
theorem ch_len : chS.length = 95 := by decide +kernel
def sp_chk (cM : Addr) : Sp := fun vs H Q E => ∃ (i : Int), vs = [.int i] ∧ (bitsOk i = true → Q (.int i) H) ∧ (bitsOk i = false → E (.ref cM) none H)
def sp_tx (K : PySem.W.Frag) (cT cM : Addr) : Sp := fun vs H Q E => ∃ (a : Addr) (bs : List Int) (i n : Nat), vs = [.ref a, .int (i : Int), .int (n : Int)] ∧ SqL K H a (bs.map V.int) ∧ Bytes bs ∧ i ≤ bs.length ∧ bs.length ≤ 90000 ∧ n ≤ 60000 ∧
  (∀ cs, txF n (bs.drop i) [] = .ok cs → ∀ p H', Same H H' → H' p = some (.tup [.str ⟨cs.toArray⟩, .int ((i + n : Nat) : Int)]) → Q (.ref p) H') ∧ (txF n (bs.drop i) [] = .trunc → ∀ H', Same H H' → E (.ref cT) none H') ∧ (txF n (bs.drop i) [] = .malf → ∀ H', Same H H' → E (.ref cM) none H')
/-- what a reading gives, from index i on -/
def Gives (K : PySem.W.Frag) (cT cM : Addr) (i : Nat) (r : TR) (H : Hp) (Q : VK) (E : XK) : Prop := match r with
  | .ok d k => ∀ p v H', Same H H' → H' p = some (.tup [v, .int ((i + k : Nat) : Int)]) → Dp K H' v d → Q (.ref p) H'
  | .trunc => ∀ H', Same H H' → E (.ref cT) none H'
  | .malf => ∀ H', Same H H' → E (.ref cM) none H'
def spTV (K : PySem.W.Frag) (cT cM : Addr) (m : Nat) : Sp := fun vs H Q E => ∃ (a : Addr) (bs : List Int) (i : Nat), vs = [.ref a, .int (i : Int), .int (20 - (m : Int))] ∧ m ≤ 20 ∧ SqL K H a (bs.map V.int) ∧ Bytes bs ∧ i ≤ bs.length ∧ bs.length ≤ 90000 ∧ Gives K cT cM i (tv m (bs.drop i)) H Q E
def spTM (K : PySem.W.Frag) (cT cM : Addr) (m : Nat) : Sp := fun vs H Q E => ∃ (a : Addr) (bs : List Int) (i n : Nat), vs = [.ref a, .int (i : Int), .int (n : Int), .int (20 - (m : Int))] ∧ m ≤ 20 ∧ SqL K H a (bs.map V.int) ∧ Bytes bs ∧ i ≤ bs.length ∧ bs.length ≤ 90000 ∧ n ≤ 60000 ∧ Gives K cT cM i (memF (tv m) n (bs.drop i) [] 0) H Q E
section
variable {P : Program} {w : World} {K : PySem.W.Frag} {mg : Str → Option Value} {base : Heap}
theorem ok__checked_integer (T : TX K mg) : FnOk P w K mg base (L2.CX P w) 1 T.a__checked_integer T.d__checked_integer ["number"] (sp_chk T.a_Malformed) := by
  refine T.F__checked_integer.okX sc__checked_integer (fun vs H Q E h => ?_) (fun cdv A outer s H vs Q E hr h => ?_)
  · obtain ⟨i, rfl, _⟩ := h
    rfl
  · obtain ⟨i, rfl, q1, q2⟩ := h
    refine ⟨_, (pss_cons (ps_if (pt_cmpR op_gt (pe_bits (pv 0)) (pe_glob (v := .int 3000) (by rfl) T.c_MOST_BITS ⟨_, rfl⟩) (nomark _)) (pss_one (ps_raise rfl (takes_of rfl rfl rfl rfl) (pmk_own PySem.F.excBase_ValueError T.x_Malformed T.g_Malformed T.k_Malformed (raises_own T.s_Malformed T.t_Malformed) rfl))) pss_nil)
      (pss_one (ps_ret (pv 0)))), ?_⟩
    refine ⟨_, rfl, i, rfl, _, _, rfl, rfl, _, rfl, ifd (fun hc => ?_) (fun hc => ?_)⟩
    · exact q2 (by unfold bitsOk; exact decide_eq_false (by omega))
    · exact ⟨_, rfl, q1 (by unfold bitsOk; exact decide_eq_true (by omega))⟩
theorem ok__take_text (T : TX K mg) : FnOk P w K mg base (L2.CX P w) 1 T.a__take_text T.d__take_text ["row", "index", "length"] (sp_tx K T.a_Truncated T.a_Malformed) := by
  refine T.F__take_text.okX sc__take_text (fun vs H Q E h => ?_) (fun cdv A outer s H vs Q E hr h => ?_)
  · obtain ⟨a, bs, i, n, rfl, _⟩ := h
    rfl
  · obtain ⟨a, bs, i, n, rfl, hS, hb, hi, hlen, hn, q, qT, qM⟩ := h
    refine ⟨_, (pss_cons (ps_set (i := 3) sc__take_text.nd rfl (Or.inl rfl) (pe_lst pa_nil))
      (pss_cons (ps_for (passes_of rfl) rfl (pi_range2 (by rfl) T.n_range (pa_cons (pv 1) (pa_cons (pe_op op_add (pv 1) (pv 2)) pa_nil))) (pg_name (i := 4) sc__take_text.nd rfl (Or.inl rfl))
        (pss_cons (ps_if (pt_cmpR op_ge (pv 4) (pe_callB call_len_seq (by rfl) T.n_len PySem.boot_len (pa_cons (pv 0) pa_nil)) (nomark _)) (pss_one (ps_raise rfl (takes_of rfl rfl rfl rfl) (pmk_own PySem.F.excBase_ValueError T.x_Truncated T.g_Truncated T.k_Truncated (raises_own T.s_Truncated T.t_Truncated) rfl))) pss_nil)
        (pss_cons (ps_set (i := 5) sc__take_text.nd rfl (Or.inl rfl) (pe_ix ix_list (pv 0) (pv 4) (fun _ _ => rfl)))
        (pss_cons (ps_if (PW.pt (pw_or (pt_cmpR op_ge (pv 5) (pe_callB call_len_str (by rfl) T.n_len PySem.boot_len (pa_cons (pe_glob (v := .str " !\"#$ &'()*+,-./0123456789:;<=>?@ABCDEFGHIJKLMNOPQRSTUVWXYZ[\\]^_`abcdefghijklmnopqrstuvwxyz{|}~") (by rfl) T.c_CHARACTERS ⟨_, rfl⟩) pa_nil)) (nomark _)) (pw_or1 (pt_cmpR op_eq (pv 5) (pe_glob (v := .int 5) (by rfl) T.c_PERCENT_BYTE ⟨_, rfl⟩) (nomark _))))) (pss_one (ps_raise rfl (takes_of rfl rfl rfl rfl) (pmk_own PySem.F.excBase_ValueError T.x_Malformed T.g_Malformed T.k_Malformed (raises_own T.s_Malformed T.t_Malformed) rfl))) pss_nil)
        (pss_one (ps_expr (pe_bm PySem.F.plainAttrs_list PySem.F.slot_list_append PySem.F.type_list_append mt_append (pv 3) (pa_cons (pe_ix ix_str (pe_glob (v := .str " !\"#$ &'()*+,-./0123456789:;<=>?@ABCDEFGHIJKLMNOPQRSTUVWXYZ[\\]^_`abcdefghijklmnopqrstuvwxyz{|}~") (by rfl) T.c_CHARACTERS ⟨_, rfl⟩) (pv 5) (fun _ _ => rfl)) pa_nil))))))))
      (pss_one (ps_ret (pe_tup (pa_cons (pe_join pe_str (pv 3)) (pa_cons (pe_op op_add (pv 1) (pv 2)) pa_nil))))))), ?_⟩
    have hml : (bs.map V.int).length = bs.length := List.length_map _
    refine ⟨Nat.zero_le _, fun o ho => ?_⟩
    refine ⟨_, rfl, _, rfl, _, rfl, _, _, rfl, rfl, _, _, rfl, ⟨by omega, by omega, by omega, by omega⟩, ?_⟩
    refine for_range (lo := (i : Int)) (n := _) (fun t σ G => ∃ (acc : List Nat) (x4 x5 : Option V), σ = [some (.ref a), some (.int (i : Int)), some (.int (n : Int)), some (.ref o), x4, x5] ∧ Same H G ∧ G o = some (.lst ((acc.map fun c => (⟨#[c]⟩ : Str)).map V.str)) ∧ acc.length = t ∧ txF n (bs.drop i) [] = txF (n - t) (bs.drop (i + t)) acc)
      ⟨[], none, none, rfl, same_upd ho, upd_same, rfl, rfl⟩ ?_ ?_
    · rintro t σ G ht ⟨acc, x4, x5, rfl, s1, e1, hl, htx⟩
      have ht' : t < n := by omega
      refine ⟨_, rfl, _, rfl, a, _, rfl, .inl (s1.seq hS), _, _, rfl, rfl, _, rfl, ifd (fun hc => ?_) (fun hc => ?_)⟩
      · rw [hml] at hc
        have h2 : bs.drop (i + t) = [] := List.drop_of_length_le (by omega)
        rw [h2, show n - t = (n - t - 1) + 1 by omega] at htx
        exact qT htx _ s1
      · rw [hml] at hc
        have hlt : i + t < bs.length := by omega
        have hg : bs[i + t]? = some bs[i + t] := List.getElem?_eq_getElem hlt
        have hbb := hb _ (List.getElem_mem hlt)
        have hdr : bs.drop (i + t) = bs[i + t] :: bs.drop (i + (t + 1)) := List.drop_eq_getElem_cons hlt
        have ga : atI (bs.map V.int) ((i : Int) + (t : Int)) = some (.int bs[i + t]) := by
          have := at_map (f := V.int) hg
          rwa [Int.natCast_add] at this
        rw [hdr, show n - t = (n - t - 1) + 1 by omega] at htx
        generalize bs[i + t] = b at hg hbb htx ga hdr
        refine ⟨_, rfl, _, rfl, a, _, _, .int b, rfl, rfl, s1.seq hS, ga, ?_⟩
        dsimp only [gName, tNext, tSeq, tIfS]
        refine or_use (x := decide (95 ≤ b)) (y := decide (b = 5)) (fun R r => ⟨_, rfl, _, rfl, (show chS.length ≤ sizeLine from by rw [ch_len]; exact sz (by decide)), _, _, rfl, rfl, _, rfl, ?_⟩) (fun R r => ⟨_, rfl, rfl, _, rfl, ?_⟩) ?_
        · have e : ((Str.length chS : Nat) : Int) = 95 := by rw [ch_len]; rfl
          show R (decide (((Str.length chS : Nat) : Int) ≤ b)) G
          rw [e]
          exact r
        · by_cases e : b = 5
          · rw [decide_eq_true e] at r
            rw [decide_eq_true (congrArg V.int e)]
            exact r
          · rw [decide_eq_false e] at r
            rw [decide_eq_false (fun z => e (V.int.inj z))]
            exact r
        have hst : txF ((n - t - 1) + 1) (b :: bs.drop (i + (t + 1))) acc = if 95 ≤ b ∨ b = 5 then .malf else txF (n - t - 1) (bs.drop (i + (t + 1))) (acc ++ [(b + 32).toNat]) := rfl
        rw [hst] at htx
        refine ifb2 (fun hx => ?_) (fun hx => ?_)
        · rw [Bool.or_eq_true, decide_eq_true_eq, decide_eq_true_eq] at hx
          rw [if_pos hx] at htx
          exact qM htx _ s1
        · rw [Bool.or_eq_false_iff, decide_eq_false_iff_not, decide_eq_false_iff_not] at hx
          rw [if_neg (by omega)] at htx
          obtain ⟨j, rfl⟩ := Int.eq_ofNat_of_zero_le hbb.1
          have hat := ch_at j (by omega) (by omega)
          refine ⟨_, rfl, .inl ⟨rfl, _, sql e1⟩, _, rfl, _, _, j + 32, rfl, rfl, (show chS.length ≤ sizeLine from by rw [ch_len]; exact sz (by decide)), atI_nat hat, o, _, _, rfl, rfl, e1, szl (by rw [List.length_map, List.length_map]; omega), ?_⟩
          refine ⟨acc ++ [j + 32], _, _, rfl, same_put s1 ho, ?_, by rw [List.length_append, hl]; rfl, ?_⟩
          · rw [upd_same, List.map_append, List.map_append]
            rfl
          · rw [htx, show ((j : Int) + 32).toNat = j + 32 by omega, show n - (t + 1) = n - t - 1 by omega]
    · rintro σ G ⟨acc, x4, x5, rfl, s1, e1, hl, htx⟩
      have hnn : ((i : Int) + (n : Int) - (i : Int)).toNat = n := by omega
      rw [hnn] at hl htx
      have hok : txF n (bs.drop i) [] = .ok acc := by rw [htx, Nat.sub_self]; rfl
      refine ⟨⟨_, rfl⟩, _, rfl, "", o, acc.map fun c => (⟨#[c]⟩ : Str), rfl, rfl, .inl (sql e1), ?_, ?_⟩
      · rw [signs_len, List.length_map]
        show acc.length + acc.length * 0 ≤ _
        omega
      · rw [join_signs]
        exact ⟨_, rfl, _, rfl, _, _, rfl, rfl, (by show 2 ≤ sizeLine; decide), fun p hp => q acc hok p _ (s1.trans (same_upd hp)) (by rw [upd_same]; rfl)⟩
end
theorem Gives.mono {K : PySem.W.Frag} {cT cM : Addr} {i : Nat} {r : TR} {H G : Hp} {Q : VK} {E : XK} (s : Same H G) (h : Gives K cT cM i r H Q E) : Gives K cT cM i r G Q E := by
  cases r with
  | ok d k => exact fun p v H' s2 e hd => h p v H' (s.trans s2) e hd
  | trunc => exact fun H' s2 => h H' (s.trans s2)
  | malf => exact fun H' s2 => h H' (s.trans s2)
theorem Gives.shift {K : PySem.W.Frag} {cT cM : Addr} {i j : Nat} {r : TR} {H : Hp} {Q : VK} {E : XK} (h : Gives K cT cM i (r.shift j) H Q E) : Gives K cT cM (i + j) r H Q E := by
  cases r with
  | ok d k => exact fun p v H' s2 e hd => h p v H' s2 (by rw [e, show i + j + k = i + (k + j) by omega]) hd
  | trunc => exact h
  | malf => exact h
section
variable {P : Program} {w : World} {K : PySem.W.Frag} {mg : Str → Option Value} {base : Heap}
theorem step_tm (T : TX K mg) (m : Nat) (ih__take_value : FnOk P w K mg base (L2.CX P w) (2 * m + 3) T.a__take_value T.d__take_value ["row", "index", "depth"] (spTV K T.a_Truncated T.a_Malformed m)) : FnOk P w K mg base (L2.CX P w) (2 * m + 4) T.a__take_members T.d__take_members ["row", "index", "length", "depth"] (spTM K T.a_Truncated T.a_Malformed m) := by
  refine T.F__take_members.okX sc__take_members (fun vs H Q E h => ?_) (fun cdv A outer s H vs Q E hr h => ?_)
  · obtain ⟨a, bs, i, n, rfl, _⟩ := h
    rfl
  · obtain ⟨a, bs, i, n, rfl, hm, hS, hb, hi, hlen, hn, q⟩ := h
    refine ⟨_, (pss_cons (ps_set (i := 4) sc__take_members.nd rfl (Or.inl rfl) (pe_lst pa_nil))
      (pss_cons (ps_for (passes_of rfl) rfl (pi_range1 (by rfl) T.n_range (pa_cons (pv 2) pa_nil)) (pg_name (i := 5) sc__take_members.nd rfl (Or.inl rfl))
        (pss_cons (ps_asg (pe_call ih__take_value (hr.mono (by omega)) (by rfl) T.g__take_value T.F__take_value.kp T.b__take_value .nil (passes_call (takes_of rfl rfl rfl rfl) (fun _ _ _ _ h => h)) (pa_cons (pv 0) (pa_cons (pv 1) (pa_cons (pv 3) pa_nil)))) (pg_tup (by rfl) (pgs_cons (pg_name (i := 6) sc__take_members.nd rfl (Or.inl rfl)) (pgs_cons (pg_name (i := 1) sc__take_members.nd rfl (Or.inl rfl)) pgs_nil))))
        (pss_one (ps_expr (pe_bm PySem.F.plainAttrs_list PySem.F.slot_list_append PySem.F.type_list_append mt_append (pv 4) (pa_cons (pv 6) pa_nil))))))
      (pss_one (ps_ret (pe_tup (pa_cons (pe_callTy call_tuple_of (by rfl) T.n_tuple (by decide +kernel) (pa_cons (pv 4) pa_nil)) (pa_cons (pv 1) pa_nil))))))), ?_⟩
    refine ⟨Nat.zero_le _, fun o ho => ?_⟩
    refine ⟨_, rfl, _, rfl, by omega, by omega, ?_⟩
    refine for_range (lo := 0) (n := _) (fun t σ G => ∃ (ds : List PyData) (xs : List V) (c : Nat) (x5 x6 : Option V), σ = [some (.ref a), some (.int ((i + c : Nat) : Int)), some (.int (n : Int)), some (.int (20 - (m : Int))), some (.ref o), x5, x6] ∧ Same H G ∧ G o = some (.lst xs) ∧ xs.length = t ∧ (∀ G', Same H G' → (∀ b w, b ≠ o → G b = some w → G' b = some w) → DpAll K G' xs ds) ∧ i + c ≤ bs.length ∧ memF (tv m) n (bs.drop i) [] 0 = memF (tv m) (n - t) (bs.drop (i + c)) ds c)
      ⟨[], [], 0, none, none, rfl, same_upd ho, upd_same, rfl, fun _ _ _ => .nil, hi, rfl⟩ ?_ ?_
    · rintro t σ G ht ⟨ds, xs, c, x5, x6, rfl, s1, e1, hl, hall, hic, hmem⟩
      have ht' : t < n := by omega
      rw [show n - t = (n - t - 1) + 1 by omega] at hmem
      have hst : memF (tv m) ((n - t - 1) + 1) (bs.drop (i + c)) ds c = match tv m (bs.drop (i + c)) with
        | .ok d k => memF (tv m) (n - t - 1) ((bs.drop (i + c)).drop k) (ds ++ [d]) (c + k)
        | .trunc => .trunc
        | .malf => .malf := rfl
      rw [hst] at hmem
      refine ⟨_, rfl, _, rfl, _, rfl, a, bs, i + c, rfl, hm, s1.seq hS, hb, hic, hlen, ?_⟩
      cases e : tv m (bs.drop (i + c)) with
      | trunc =>
        rw [e] at hmem
        rw [hmem] at q
        exact fun H' s2 => q H' (s1.trans s2)
      | malf =>
        rw [e] at hmem
        rw [hmem] at q
        exact fun H' s2 => q H' (s1.trans s2)
      | ok d k =>
        rw [e] at hmem
        have hk := tv_len m _ d k e
        rw [List.length_drop] at hk
        intro p v G2 s2 ep hd
        have e2 := s2 _ _ e1
        refine ⟨p, _, rfl, sqt ep, rfl, ?_⟩
        refine ⟨v, _, rfl, _, _, rfl, rfl, ?_⟩
        refine ⟨_, rfl, .inl ⟨rfl, _, sql e2⟩, _, rfl, o, _, _, rfl, rfl, e2, szl (by omega), ?_⟩
        refine ⟨ds ++ [d], xs ++ [v], c + k, some (.int (0 + (t : Int))), some v, by rw [← Nat.add_assoc]; rfl, same_put (s1.trans s2) ho, upd_same, by rw [List.length_append, hl]; rfl, fun G' sG off => ?_, by omega, ?_⟩
        · have hoff : ∀ b w, b ≠ o → G2 b = some w → G' b = some w := fun b w nb h => off b w nb (by rw [upd_ne nb]; exact h)
          refine dpa_app (hall G' sG fun b w nb h => hoff b w nb (s2 _ _ h)) (.cons ?_ .nil)
          exact dp_off e2 hoff m d (tv_ok m _ d k (bytes_drop _ hb) e) hd
        · rw [hmem]
          dsimp only
          rw [List.drop_drop, show n - (t + 1) = n - t - 1 by omega, Nat.add_assoc]
    · rintro σ G ⟨ds, xs, c, x5, x6, rfl, s1, e1, hl, hall, hic, hmem⟩
      rw [Int.toNat_natCast, Nat.sub_self] at hmem
      have hok : memF (tv m) n (bs.drop i) [] 0 = .ok (.tuple ds) c := by rw [hmem]; rfl
      rw [hok] at q
      refine ⟨_, rfl, o, _, rfl, .inl ⟨sql e1, fun p1 hp1 => ?_⟩⟩
      have s2 := same_upd (o := .tup xs) hp1
      refine ⟨_, rfl, (by show 2 ≤ sizeLine; decide), fun p hp => ?_⟩
      have s3 := s2.trans (same_upd (o := .tup [.ref p1, .int ((i + c : Nat) : Int)]) hp)
      refine q p (.ref p1) _ (s1.trans s3) upd_same (.tup (sqt ?_) (hall _ (s1.trans s3) fun b w _ h => s3 _ _ h))
      rw [upd_ne (fun z => by rw [z, upd_same] at hp; cases hp), upd_same]
theorem step_tv (T : TX K mg) (m : Nat) (spm : Sp) (ih__take_members : FnOk P w K mg base (L2.CX P w) (2 * m + 2) T.a__take_members T.d__take_members ["row", "index", "length", "depth"] spm) (hs : ∀ j, m = j + 1 → spm = spTM K T.a_Truncated T.a_Malformed j) : FnOk P w K mg base (L2.CX P w) (2 * m + 3) T.a__take_value T.d__take_value ["row", "index", "depth"] (spTV K T.a_Truncated T.a_Malformed m) := by
  refine T.F__take_value.okX sc__take_value (fun vs H Q E h => ?_) (fun cdv A outer s H vs Q E hr h => ?_)
  · obtain ⟨a, bs, i, rfl, _⟩ := h
    rfl
  · obtain ⟨a, bs, i, rfl, hm, hS, hb, hi, hlen, q⟩ := h
    refine ⟨_, (pss_cons (ps_if (pt_cmpR op_ge (pv 1) (pe_callB call_len_seq (by rfl) T.n_len PySem.boot_len (pa_cons (pv 0) pa_nil)) (nomark _)) (pss_one (ps_raise rfl (takes_of rfl rfl rfl rfl) (pmk_own PySem.F.excBase_ValueError T.x_Truncated T.g_Truncated T.k_Truncated (raises_own T.s_Truncated T.t_Truncated) rfl))) pss_nil)
      (pss_cons (ps_set (i := 3) sc__take_value.nd rfl (Or.inl rfl) (pe_ix ix_list (pv 0) (pv 1) (fun _ _ => rfl)))
      (pss_cons (ps_if (pt_cmpR op_gt (pv 3) (pe_glob (v := .int 6) (by rfl) T.c_TUPLE_TAG ⟨_, rfl⟩) (nomark _)) (pss_one (ps_raise rfl (takes_of rfl rfl rfl rfl) (pmk_own PySem.F.excBase_ValueError T.x_Malformed T.g_Malformed T.k_Malformed (raises_own T.s_Malformed T.t_Malformed) rfl))) pss_nil)
      (pss_cons (ps_if (pt_cmpR op_le (pv 3) (pe_glob (v := .int 2) (by rfl) T.c_TRUE_TAG ⟨_, rfl⟩) (nomark _)) (pss_one (ps_ret (pe_tup (pa_cons (pe_ix ix_tup (pe_glob (v := .ref T.ca_CONSTANTS) (by rfl) T.c_CONSTANTS rfl) (pv 3) (fun _ _ => rfl)) (pa_cons (pe_op op_add (pv 1) pe_int) pa_nil))))) pss_nil)
      (pss_cons (ps_if (PW.pt (pw_and (pt_cmpR op_eq (pv 3) (pe_glob (v := .int 6) (by rfl) T.c_TUPLE_TAG ⟨_, rfl⟩) (nomark _)) (pw_and1 (pt_cmpR op_eq (pv 2) (pe_glob (v := .int 20) (by rfl) T.c_MOST_DEPTH ⟨_, rfl⟩) (nomark _))))) (pss_one (ps_raise rfl (takes_of rfl rfl rfl rfl) (pmk_own PySem.F.excBase_ValueError T.x_Malformed T.g_Malformed T.k_Malformed (raises_own T.s_Malformed T.t_Malformed) rfl))) pss_nil)
      (pss_cons (ps_asg (pe_call (ok_take_number T) (hr.mono (by omega)) (by rfl) T.g_take_number T.F_take_number.kp T.b_take_number .nil (passes_call (takes_of rfl rfl rfl rfl) (fun _ _ _ _ h => h)) (pa_cons (pv 0) (pa_cons (pe_op op_add (pv 1) pe_int) pa_nil))) (pg_tup (by rfl) (pgs_cons (pg_name (i := 4) sc__take_value.nd rfl (Or.inl rfl)) (pgs_cons (pg_name (i := 5) sc__take_value.nd rfl (Or.inl rfl)) pgs_nil))))
      (pss_cons (ps_if (pt_cmpR op_eq (pv 3) (pe_glob (v := .int 3) (by rfl) T.c_NATURAL_TAG ⟨_, rfl⟩) (nomark _)) (pss_one (ps_ret (pe_tup (pa_cons (pe_call (ok__checked_integer T) (hr.mono (by omega)) (by rfl) T.g__checked_integer T.F__checked_integer.kp T.b__checked_integer .nil (passes_call (takes_of rfl rfl rfl rfl) (fun _ _ _ _ h => h)) (pa_cons (pv 4) pa_nil)) (pa_cons (pv 5) pa_nil))))) pss_nil)
      (pss_cons (ps_if (pt_cmpR op_eq (pv 3) (pe_glob (v := .int 4) (by rfl) T.c_NEGATIVE_TAG ⟨_, rfl⟩) (nomark _)) (pss_one (ps_ret (pe_tup (pa_cons (pe_call (ok__checked_integer T) (hr.mono (by omega)) (by rfl) T.g__checked_integer T.F__checked_integer.kp T.b__checked_integer .nil (passes_call (takes_of rfl rfl rfl rfl) (fun _ _ _ _ h => h)) (pa_cons (pe_op op_sub (pe_un un_neg pe_int) (pv 4)) pa_nil)) (pa_cons (pv 5) pa_nil))))) pss_nil)
      (pss_cons (ps_if (pt_cmpR op_gt (pv 4) (pe_glob (v := .int 60000) (by rfl) T.c_MOST_LENGTH ⟨_, rfl⟩) (nomark _)) (pss_one (ps_raise rfl (takes_of rfl rfl rfl rfl) (pmk_own PySem.F.excBase_ValueError T.x_Malformed T.g_Malformed T.k_Malformed (raises_own T.s_Malformed T.t_Malformed) rfl))) pss_nil)
      (pss_cons (ps_if (pt_cmpR op_eq (pv 3) (pe_glob (v := .int 5) (by rfl) T.c_TEXT_TAG ⟨_, rfl⟩) (nomark _)) (pss_one (ps_ret (pe_call (ok__take_text T) (hr.mono (by omega)) (by rfl) T.g__take_text T.F__take_text.kp T.b__take_text .nil (passes_call (takes_of rfl rfl rfl rfl) (fun _ _ _ _ h => h)) (pa_cons (pv 0) (pa_cons (pv 5) (pa_cons (pv 4) pa_nil)))))) pss_nil)
      (pss_one (ps_ret (pe_call ih__take_members (hr.mono (by omega)) (by rfl) T.g__take_members T.F__take_members.kp T.b__take_members .nil (passes_call (takes_of rfl rfl rfl rfl) (fun _ _ _ _ h => h)) (pa_cons (pv 0) (pa_cons (pv 5) (pa_cons (pv 4) (pa_cons (pe_op op_add (pv 2) pe_int) pa_nil))))))))))))))))), ?_⟩
    have hml : (bs.map V.int).length = bs.length := List.length_map _
    obtain ⟨mm, hmm⟩ : ∃ mm, mm = (match m with | 0 => none | j + 1 => some (tv j)) := ⟨_, rfl⟩
    have htv : ∀ l, tv m l = tvB mm l := fun l => by
      cases m with
      | zero => rw [hmm]; rfl
      | succ j => rw [hmm]; rfl
    rw [htv] at q
    refine ⟨_, rfl, _, rfl, a, _, rfl, .inl hS, _, _, rfl, rfl, _, rfl, ifd (fun hc => ?_) (fun hc => ?_)⟩
    · rw [hml] at hc
      rw [List.drop_of_length_le (by omega)] at q
      exact q _ (Same.refl _)
    rw [hml] at hc
    have hlt : i < bs.length := by omega
    have hg : bs[i]? = some bs[i] := List.getElem?_eq_getElem hlt
    have hbb := hb _ (List.getElem_mem hlt)
    have hdr : bs.drop i = bs[i] :: bs.drop (i + 1) := List.drop_eq_getElem_cons hlt
    have ga : atI (bs.map V.int) (i : Int) = some (.int bs[i]) := at_map (f := V.int) hg
    rw [hdr] at q
    generalize bs[i] = t at hg hbb q ga hdr
    have q : Gives K T.a_Truncated T.a_Malformed i (tvC mm t (bs.drop (i + 1))) H Q E := q
    unfold tvC at q
    refine ⟨_, rfl, _, rfl, a, _, _, .int t, rfl, rfl, hS, ga, ?_⟩
    refine ⟨_, rfl, _, _, rfl, rfl, _, rfl, ifd (fun h6 => ?_) (fun h6 => ?_)⟩
    · rw [if_pos h6] at q
      exact q _ (Same.refl _)
    rw [if_neg h6] at q
    refine ⟨_, rfl, _, _, rfl, rfl, _, rfl, ifd (fun h2 => ?_) (fun h2 => ?_)⟩
    · rw [if_pos h2] at q
      obtain ⟨x, hx, hxd⟩ : ∃ x, atI [V.non, V.bl false, V.bl true] t = some x ∧ ∀ G, Dp K G x (constD t) := by
        have h3 : t = 0 ∨ t = 1 ∨ t = 2 := by omega
        rcases h3 with rfl | rfl | rfl
        · exact ⟨.non, rfl, fun _ => .non⟩
        · exact ⟨.bl false, rfl, fun _ => .bl false⟩
        · exact ⟨.bl true, rfl, fun _ => .bl true⟩
      refine ⟨_, rfl, T.ca_CONSTANTS, _, t, x, rfl, rfl, T.q_CONSTANTS _, hx, _, rfl, _, _, rfl, rfl, (by show 2 ≤ sizeLine; decide), fun p hp => q p x _ (same_upd hp) ?_ (hxd _)⟩
      rw [upd_same]; rfl
    rw [if_neg h2] at q
    dsimp only [gName, tNext, tSeq, tIfS]
    refine and_use (x := decide (t = 6)) (y := decide (m = 0)) (fun R r => ⟨_, rfl, rfl, _, rfl, ?_⟩) (fun R r => ⟨_, rfl, rfl, _, rfl, ?_⟩) ?_
    · by_cases e : t = 6
      · rw [decide_eq_true e] at r
        rw [decide_eq_true (congrArg V.int e)]
        exact r
      · rw [decide_eq_false e] at r
        rw [decide_eq_false (fun z => e (V.int.inj z))]
        exact r
    · by_cases e : m = 0
      · rw [decide_eq_true e] at r
        rw [decide_eq_true (by rw [e]; rfl)]
        exact r
      · rw [decide_eq_false e] at r
        rw [decide_eq_false (fun z => e (by have := V.int.inj z; omega))]
        exact r
    have hmn : mm.isNone = decide (m = 0) := by
      cases m with
      | zero => rw [hmm]; rfl
      | succ j => rw [hmm]; simp
    refine ifb2 (fun hx => ?_) (fun hx => ?_)
    · rw [Bool.and_eq_true, decide_eq_true_eq] at hx
      rw [if_pos ⟨hx.1, by rw [hmn]; exact hx.2⟩] at q
      exact q _ (Same.refl _)
    have hno : ¬ (t = 6 ∧ mm.isNone = true) := fun z => by
      rw [hmn] at z
      rw [Bool.and_eq_false_iff, decide_eq_false_iff_not] at hx
      rcases hx with y | y
      · exact y z.1
      · rw [y] at z; cases z.2
    rw [if_neg hno] at q
    have hbr := bytes_drop (i + 1) hb
    refine ⟨_, rfl, _, rfl, _, _, rfl, rfl, a, bs, i + 1, rfl, hS, hb, hlt, hlen, fun n c e p G hp s1 ep => ?_, fun e => ?_, fun e => ?_⟩
    · rw [e] at q
      have hn := rdGo_nn 500 0 0 _ n c hbr (by decide) e
      have hc2 := (rdGo_len 500 0 0 _ n c e).1
      rw [List.length_drop] at hc2
      obtain ⟨n, rfl⟩ := Int.eq_ofNat_of_zero_le hn
      dsimp only at q
      rw [Int.toNat_natCast] at q
      have hS1 := s1.seq hS
      refine ⟨p, _, rfl, sqt ep, rfl, _, _, rfl, _, _, rfl, rfl, ?_⟩
      have hix : ∀ j : Nat, ((i + 1 + c + j : Nat) : Int) = ((i + (1 + c + j) : Nat) : Int) := fun j => by omega
      refine ⟨_, rfl, rfl, _, rfl, ifd (fun h3 => ?_) (fun h3 => ?_)⟩
      · rw [if_pos (V.int.inj h3)] at q
        unfold chkI at q
        refine ⟨_, rfl, (n : Int), rfl, fun hbo => ?_, fun hbo => ?_⟩
        · rw [if_pos hbo] at q
          refine ⟨_, rfl, (by show 2 ≤ sizeLine; decide), fun p hp => q p (.int n) _ (s1.trans (same_upd hp)) ?_ (.int n)⟩
          rw [upd_same, show i + 1 + c = i + (1 + c) by omega]
        · rw [if_neg (by rw [hbo]; decide)] at q
          exact q _ s1
      rw [if_neg (fun z => h3 (congrArg V.int z))] at q
      refine ⟨_, rfl, rfl, _, rfl, ifd (fun h4 => ?_) (fun h4 => ?_)⟩
      · rw [if_pos (V.int.inj h4)] at q
        unfold chkI at q
        refine ⟨_, rfl, _, rfl, _, _, rfl, rfl, -1 - (n : Int), rfl, fun hbo => ?_, fun hbo => ?_⟩
        · rw [if_pos hbo] at q
          refine ⟨_, rfl, (by show 2 ≤ sizeLine; decide), fun p hp => q p (.int (-1 - (n : Int))) _ (s1.trans (same_upd hp)) ?_ (.int _)⟩
          rw [upd_same, show i + 1 + c = i + (1 + c) by omega]
        · rw [if_neg (by rw [hbo]; decide)] at q
          exact q _ s1
      rw [if_neg (fun z => h4 (congrArg V.int z))] at q
      refine ⟨_, rfl, _, _, rfl, rfl, _, rfl, ifd (fun h60 => ?_) (fun h60 => ?_)⟩
      · rw [if_pos h60] at q
        exact q _ s1
      rw [if_neg h60] at q
      refine ⟨_, rfl, rfl, _, rfl, ifd (fun h5 => ?_) (fun h5 => ?_)⟩
      · rw [if_pos (V.int.inj h5)] at q
        refine ⟨_, rfl, _, rfl, _, rfl, a, bs, i + 1 + c, n, rfl, hS1, hb, by omega, hlen, by omega, fun cs e2 p2 G2 s2 ep2 => ?_, fun e2 G2 s2 => ?_, fun e2 G2 s2 => ?_⟩
        · rw [List.drop_drop, e2] at q
          exact q p2 _ G2 (s1.trans s2) (by rw [ep2, hix]) (.str _)
        · rw [List.drop_drop, e2] at q
          exact q G2 (s1.trans s2)
        · rw [List.drop_drop, e2] at q
          exact q G2 (s1.trans s2)
      rw [if_neg (fun z => h5 (congrArg V.int z))] at q
      have ht6 : t = 6 := by
        have h7 : ¬ V.int t = V.int 3 := h3
        have h8 : t ≠ 3 := fun z => h3 (congrArg V.int z)
        have h9 : t ≠ 4 := fun z => h4 (congrArg V.int z)
        have h10 : t ≠ 5 := fun z => h5 (congrArg V.int z)
        omega
      cases m with
      | zero => exact absurd ⟨ht6, by rw [hmm]; rfl⟩ hno
      | succ j =>
        have hsp := hs j rfl
        subst hsp
        rw [hmm] at q
        unfold tvM at q
        dsimp only at q
        refine ⟨_, rfl, _, rfl, _, rfl, _, rfl, _, _, rfl, rfl, a, bs, i + 1 + c, n, ?_, by omega, hS1, hb, by omega, hlen, by omega, ?_⟩
        · have : (20 : Int) - ((j + 1 : Nat) : Int) + 1 = 20 - (j : Int) := by omega
          exact congrArg (fun z => [V.ref a, V.int ((i + 1 + c : Nat) : Int), V.int (n : Int), V.int z]) this
        · rw [show (1 + c : Nat) = 0 + (1 + c) by omega, memF_shift, List.drop_drop] at q
          rw [show i + 1 + c = i + (1 + c) by omega] at q ⊢
          exact (Gives.shift q).mono s1
    · rw [e] at q
      exact q _ (Same.refl _)
    · rw [e] at q
      exact q _ (Same.refl _)
/-- nothing is asked: any def keeps that -/
theorem tvn (T : TX K mg) : ∀ m : Nat, FnOk P w K mg base (L2.CX P w) (2 * m + 3) T.a__take_value T.d__take_value ["row", "index", "depth"] (spTV K T.a_Truncated T.a_Malformed m)
  | 0 => step_tv T 0 (fun _ _ _ _ => False) (T.F__take_members.okX sc__take_members (fun vs H Q E h => h.elim) (fun cdv A outer s H vs Q E hr h => h.elim)) (fun j h => by cases h)
  | m + 1 => step_tv T (m + 1) (spTM K T.a_Truncated T.a_Malformed m) (step_tm T m (tvn T m)) (fun j h => by injection h with h; rw [h])
theorem ok__take_value (T : TX K mg) : FnOk P w K mg base (L2.CX P w) (43) T.a__take_value T.d__take_value ["row", "index", "depth"] (spTV K T.a_Truncated T.a_Malformed 20) := tvn T 20
def sp_unpack (K : PySem.W.Frag) (cT cM : Addr) : Sp := fun vs H Q E => ∃ (a : Addr) (bs : List Int), vs = [.ref a] ∧ SqL K H a (bs.map V.int) ∧ Bytes bs ∧ bs.length ≤ 90000 ∧
  (match tv 20 bs with
    | .ok d k => if k < bs.length then ∀ H', Same H H' → E (.ref cM) none H' else ∀ v H', Same H H' → Dp K H' v d → Q v H'
    | .trunc => ∀ H', Same H H' → E (.ref cT) none H'
    | .malf => ∀ H', Same H H' → E (.ref cM) none H')
theorem ok_unpack (T : TX K mg) : FnOk P w K mg base (L2.CX P w) 44 T.a_unpack T.d_unpack ["row"] (sp_unpack K T.a_Truncated T.a_Malformed) := by
  refine T.F_unpack.okX sc_unpack (fun vs H Q E h => ?_) (fun cdv A outer s H vs Q E hr h => ?_)
  · obtain ⟨a, bs, rfl, _⟩ := h
    rfl
  · obtain ⟨a, bs, rfl, hS, hb, hlen, q⟩ := h
    refine ⟨_, (pss_cons (ps_asg (pe_call (ok__take_value T) (hr.mono (by decide)) (by rfl) T.g__take_value T.F__take_value.kp T.b__take_value .nil (passes_call (takes_of rfl rfl rfl rfl) (fun _ _ _ _ h => h)) (pa_cons (pv 0) (pa_cons pe_int (pa_cons pe_int pa_nil)))) (pg_tup (by rfl) (pgs_cons (pg_name (i := 1) sc_unpack.nd rfl (Or.inl rfl)) (pgs_cons (pg_name (i := 2) sc_unpack.nd rfl (Or.inl rfl)) pgs_nil))))
      (pss_cons (ps_if (pt_cmpR op_lt (pv 2) (pe_callB call_len_seq (by rfl) T.n_len PySem.boot_len (pa_cons (pv 0) pa_nil)) (nomark _)) (pss_one (ps_raise rfl (takes_of rfl rfl rfl rfl) (pmk_own PySem.F.excBase_ValueError T.x_Malformed T.g_Malformed T.k_Malformed (raises_own T.s_Malformed T.t_Malformed) rfl))) pss_nil)
      (pss_one (ps_ret (pv 1))))), ?_⟩
    refine ⟨_, rfl, a, bs, 0, rfl, by decide, hS, hb, Nat.zero_le _, hlen, ?_⟩
    rw [List.drop_zero]
    cases e : tv 20 bs with
    | trunc =>
      rw [e] at q
      exact q
    | malf =>
      rw [e] at q
      exact q
    | ok d k =>
      rw [e] at q
      dsimp only at q
      intro p v G s1 ep hd
      rw [Nat.zero_add] at ep
      have hml : (bs.map V.int).length = bs.length := List.length_map _
      refine ⟨p, _, rfl, sqt ep, rfl, v, _, rfl, _, _, rfl, rfl, ?_⟩
      refine ⟨_, rfl, _, rfl, a, _, rfl, .inl (s1.seq hS), _, _, rfl, rfl, _, rfl, ifd (fun hc => ?_) (fun hc => ?_)⟩
      · rw [hml] at hc
        rw [if_pos (by omega)] at q
        exact q _ s1
      · rw [hml] at hc
        rw [if_neg (by omega)] at q
        exact ⟨_, rfl, q v G s1 hd⟩
def sp_pack (K : PySem.W.Frag) (cN : Addr) : Sp := fun vs H Q E => ∃ (v : V) (d : PyData), vs = [v] ∧ Dp K H v d ∧ fits d = true ∧
  (okV 20 d = true → (pkL d).length ≤ 90000 ∧ ∀ p H', H p = none → Same H H' → H' p = some (.lst ((pkL d).map V.int)) → Q (.ref p) H') ∧ (okV 20 d = false → E (.ref cN) none H)
theorem ok_pack (T : TX K mg) : FnOk P w K mg base (L2.CX P w) 24 T.a_pack T.d_pack ["value"] (sp_pack K T.a_NotAValue) := by
  refine T.F_pack.okX sc_pack (fun vs H Q E h => ?_) (fun cdv A outer s H vs Q E hr h => ?_)
  · obtain ⟨v, d, rfl, _⟩ := h
    rfl
  · obtain ⟨v, d, rfl, hd, hf, q1, q2⟩ := h
    refine ⟨_, (pss_cons (ps_if (pt_not (pt_val (pe_call (ok_is_value T) (hr.mono (by decide)) (by rfl) T.g_is_value T.F_is_value.kp T.b_is_value .nil pass0 (pa_cons (pv 0) pa_nil)))) (pss_one (ps_raise rfl (takes_of rfl rfl rfl rfl) (pmk_own PySem.F.excBase_ValueError T.x_NotAValue T.g_NotAValue T.k_NotAValue (raises_own T.s_NotAValue T.t_NotAValue) rfl))) pss_nil)
      (pss_one (ps_ret (pe_call (ok__packed T) (hr.mono (by decide)) (by rfl) T.g__packed T.F__packed.kp T.b__packed .nil pass0 (pa_cons (pv 0) pa_nil))))), ?_⟩
    refine ⟨_, rfl, v, d, rfl, hd, hf, _, rfl, ?_⟩
    cases e : okV 20 d with
    | true =>
      obtain ⟨hl, q⟩ := q1 e
      exact ifbf rfl ⟨_, rfl, v, d, rfl, hd, e, hl, q⟩
    | false => exact ifbt rfl (q2 e)
end
theorem rd_put {n : Nat} (h : n < Lim) (rest : List Int) : rd (enc n ++ rest) = .num n (enc n).length := by
  have := rd_enc n 500 0 0 rest (enc_lim h) (.inl rfl)
  unfold rd
  rw [this, Nat.zero_add]
  congr 1
  rw [Int.pow_zero]
  omega
theorem tx_put : ∀ (cs acc : List Nat) (rest : List Int), (∀ c ∈ cs, plainC c = true) → txF cs.length ((cs.map fun (c : Nat) => (c : Int) - 32) ++ rest) acc = .ok (acc ++ cs)
  | [], acc, _, _ => by rw [List.append_nil]; rfl
  | c :: cs, acc, rest, h => by
    have hc := h c List.mem_cons_self
    unfold plainC at hc
    simp only [Bool.not_eq_true', Bool.or_eq_false_iff, decide_eq_false_iff_not] at hc
    show (if 95 ≤ (c : Int) - 32 ∨ (c : Int) - 32 = 5 then .malf else txF cs.length ((cs.map fun (c : Nat) => (c : Int) - 32) ++ rest) (acc ++ [((c : Int) - 32 + 32).toNat])) = T3.ok (acc ++ (c :: cs))
    rw [if_neg (by omega), show ((c : Int) - 32 + 32).toNat = c by omega, tx_put cs _ rest fun x hx => h x (List.mem_cons_of_mem _ hx), List.append_assoc]
    rfl
theorem intBits_int {i : Int} : bitsOk i = true → i.natAbs < Lim := fun h => bits_lt (by unfold bitsOk at h; have := of_decide_eq_true h; omega)
theorem tvB_tag {mm : Option (List Int → TR)} {t : Int} {n : Nat} {rest : List Int} (h : 2 < t) (h6 : t ≤ 6) (hn : n < Lim) (hm : t = 6 → mm.isNone = false) : tvC mm t (enc n ++ rest) = if t = 3 then chkI n (1 + (enc n).length) else if t = 4 then chkI (-1 - (n : Int)) (1 + (enc n).length) else if 60000 < (n : Int) then .malf
      else if t = 5 then tvT (txF n rest []) (1 + (enc n).length + n)
      else tvM mm n rest (1 + (enc n).length) := by
  unfold tvC
  rw [if_neg (by omega), if_neg (by omega), if_neg (fun z => by rw [hm z.1] at z; cases z.2), rd_put hn]
  dsimp only
  rw [Int.toNat_natCast, List.drop_left]
mutual
theorem tv_pk : ∀ (m : Nat) (d : PyData) (rest : List Int), okV m d = true → tv m (pkL d ++ rest) = .ok d (pkL d).length
  | m, .none, rest, _ => by cases m <;> (simp only [pkL]; rfl)
  | m, .bool b, rest, _ => by cases m <;> cases b <;> (simp only [pkL]; rfl)
  | m, .int i, rest, h => by
    have hb : bitsOk i = true := by cases m <;> simpa [okV] using h
    have hl := intBits_int hb
    have htv : ∀ l, tv m l = tvB (match m with | 0 => none | j + 1 => some (tv j)) l := fun l => by cases m <;> rfl
    rw [htv]
    by_cases hn : i < 0
    · have e : pkL (.int i) = 4 :: enc (-1 - i).toNat := by simp [pkL, hn]
      rw [e]
      show tvC _ 4 (enc (-1 - i).toNat ++ rest) = _
      rw [tvB_tag (by decide) (by decide) (by omega) (fun z => by cases z), if_neg (by decide), if_pos rfl]
      unfold chkI
      rw [show (-1 - ((-1 - i).toNat : Int)) = i by omega, if_pos hb, List.length_cons, Nat.add_comm]
    · have e : pkL (.int i) = 3 :: enc i.toNat := by simp [pkL, hn]
      rw [e]
      show tvC _ 3 (enc i.toNat ++ rest) = _
      rw [tvB_tag (by decide) (by decide) (by omega) (fun z => by cases z), if_pos rfl]
      unfold chkI
      rw [show ((i.toNat : Nat) : Int) = i by omega, if_pos hb, List.length_cons, Nat.add_comm]
  | m, .str x, rest, h => by
    rw [okV_str, Bool.and_eq_true, decide_eq_true_eq] at h
    have htv : ∀ l, tv m l = tvB (match m with | 0 => none | j + 1 => some (tv j)) l := fun l => by cases m <;> rfl
    rw [htv]
    have e : pkL (.str x) = 5 :: (enc x.length ++ x.cps.toList.map fun (c : Nat) => (c : Int) - 32) := by simp [pkL]
    rw [e]
    show tvC _ 5 ((enc x.length ++ x.cps.toList.map fun (c : Nat) => (c : Int) - 32) ++ rest) = _
    rw [List.append_assoc, tvB_tag (by decide) (by decide) (enc_small_lim (by omega)) (fun z => by cases z), if_neg (by decide), if_neg (by decide), if_neg (by omega), if_pos rfl]
    have ht := tx_put x.cps.toList [] rest (List.all_eq_true.mp h.2)
    rw [← zlen] at ht
    rw [ht]
    unfold tvT
    dsimp only
    rw [List.nil_append]
    congr 1
    simp only [List.length_cons, List.length_append, List.length_map, ← zlen]
    omega
  | 0, .tuple ds, rest, h => by rw [okV_tup0] at h; cases h
  | m + 1, .tuple ds, rest, h => by
    rw [okV_tup, Bool.and_eq_true, decide_eq_true_eq] at h
    have e : pkL (.tuple ds) = 6 :: (enc ds.length ++ pkA ds) := by simp [pkL]
    rw [e]
    show tvC (some (tv m)) 6 ((enc ds.length ++ pkA ds) ++ rest) = _
    rw [List.append_assoc, tvB_tag (by decide) (by decide) (enc_small_lim (by omega)) (fun z => rfl), if_neg (by decide), if_neg (by decide), if_neg (by omega), if_neg (by decide)]
    unfold tvM
    dsimp only
    rw [mem_pk m ds [] rest _ h.2]
    simp only [List.length_cons, List.length_append, List.nil_append]
    congr 1
    omega
  | _, .list ds, _, h => by rw [okV_lst] at h; cases h
  | m, .dict ds, _, h => by cases m <;> simp [okV] at h
theorem mem_pk : ∀ (m : Nat) (ds acc : List PyData) (rest : List Int) (c : Nat), okA m ds = true → memF (tv m) ds.length (pkA ds ++ rest) acc c = .ok (.tuple (acc ++ ds)) (c + (pkA ds).length)
  | m, [], acc, rest, c, _ => by rw [List.append_nil]; rfl
  | m, d :: ds, acc, rest, c, h => by
    simp only [okA, Bool.and_eq_true] at h
    have e : pkA (d :: ds) = pkL d ++ pkA ds := by simp [pkA]
    rw [e, List.append_assoc]
    show (match tv m (pkL d ++ (pkA ds ++ rest)) with
      | .ok d2 k => memF (tv m) ds.length ((pkL d ++ (pkA ds ++ rest)).drop k) (acc ++ [d2]) (c + k)
      | .trunc => .trunc
      | .malf => .malf) = _
    rw [tv_pk m d _ h.1]
    dsimp only
    rw [List.drop_left, mem_pk m ds _ rest _ h.2, List.append_assoc, List.length_append, Nat.add_assoc]
    rfl
end
theorem bits_mono (x : Str) (h : plainS x = true) : ∀ b ∈ (x.cps.toList.map fun (c : Nat) => (c : Int) - 32), 0 ≤ b ∧ b < 256 := fun b hb => by
  obtain ⟨c, hc, rfl⟩ := List.mem_map.mp hb
  have := List.all_eq_true.mp h c hc
  unfold plainC at this
  simp only [Bool.not_eq_true', Bool.or_eq_false_iff, decide_eq_false_iff_not] at this
  omega
theorem bytes_app {a b : List Int} (h : Bytes a) (g : Bytes b) : Bytes (a ++ b) := fun x hx => (List.mem_append.mp hx).elim (h x) (g x)
theorem bytes_cons {x : Int} {a : List Int} (h : 0 ≤ x ∧ x < 256) (g : Bytes a) : Bytes (x :: a) := fun y hy => (List.mem_cons.mp hy).elim (fun z => by rw [z]; exact h) (g y)
mutual
theorem pk_bytes : ∀ (m : Nat) (d : PyData), okV m d = true → Bytes (pkL d)
  | _, .none, _ => by simp only [pkL]; exact bytes_cons (by decide) (fun _ z => by cases z)
  | _, .bool b, _ => by cases b <;> (simp only [pkL]; exact bytes_cons (by decide) (fun _ z => by cases z))
  | _, .int i, _ => by
    by_cases hn : i < 0
    · rw [show pkL (.int i) = 4 :: enc (-1 - i).toNat by simp [pkL, hn]]
      exact bytes_cons (by decide) (enc_bytes _)
    · rw [show pkL (.int i) = 3 :: enc i.toNat by simp [pkL, hn]]
      exact bytes_cons (by decide) (enc_bytes _)
  | m, .str x, h => by
    rw [okV_str, Bool.and_eq_true] at h
    rw [show pkL (.str x) = 5 :: (enc x.length ++ x.cps.toList.map fun (c : Nat) => (c : Int) - 32) by simp [pkL]]
    exact bytes_cons (by decide) (bytes_app (enc_bytes _) (bits_mono x h.2))
  | 0, .tuple ds, h => by rw [okV_tup0] at h; cases h
  | m + 1, .tuple ds, h => by
    rw [okV_tup, Bool.and_eq_true] at h
    rw [show pkL (.tuple ds) = 6 :: (enc ds.length ++ pkA ds) by simp [pkL]]
    exact bytes_cons (by decide) (bytes_app (enc_bytes _) (pkA_bytes m ds h.2))
  | _, .list ds, h => by rw [okV_lst] at h; cases h
  | m, .dict ds, h => by cases m <;> simp [okV] at h
theorem pkA_bytes : ∀ (m : Nat) (ds : List PyData), okA m ds = true → Bytes (pkA ds)
  | _, [], _ => fun _ z => by cases z
  | m, d :: ds, h => by
    simp only [okA, Bool.and_eq_true] at h
    rw [show pkA (d :: ds) = pkL d ++ pkA ds by simp [pkA]]
    exact bytes_app (pk_bytes m d h.1) (pkA_bytes m ds h.2)
end
/-! the draws of a script: many numbers from 0 to 996 -/
def Drawn (ds : List Int) : Prop := ∀ d ∈ ds, 0 ≤ d ∧ d < 997
theorem drawn_app {ds es : List Int} (h : Drawn ds) (g : Drawn es) : Drawn (ds ++ es) := fun d hd => (List.mem_append.mp hd).elim (h d) (g d)
theorem drawn_one {d : Int} (h : 0 ≤ d) (g : d < 997) : Drawn [d] := fun e he => by rw [List.mem_singleton] at he; subst he; exact ⟨h, g⟩
theorem drawn_take {ds : List Int} (n : Nat) (h : Drawn ds) : Drawn (ds.take n) := fun d hd => h d (List.mem_of_mem_take hd)
def sp_draws (K : PySem.W.Frag) : Sp := fun vs H Q _ => ∃ (a : Addr) (ns : List Int) (many : Nat), vs = [.ref a, .int (many : Int)] ∧ SqL K H a (ns.map V.int) ∧ ns.length ≤ 63 ∧ many ≤ 1000 ∧
  ∀ (p : Addr) (H' : Hp) (ds : List Int), H p = none → Same H H' → H' p = some (.lst (ds.map V.int)) → Drawn ds → ds.length = many → Q (.ref p) H'
section
variable {P : Program} {w : World} {K : PySem.W.Frag} {mg : Str → Option Value} {base : Heap}
theorem ok__law_draws (T : TX K mg) : FnOk P w K mg base CX0 1 T.a__law_draws T.d__law_draws ["script", "many"] (sp_draws K) := by
  refine T.F__law_draws.ok sc__law_draws (fun vs H Q E h => ?_) (fun cdv A outer s H vs Q E hr h => ?_)
  · obtain ⟨a, ns, many, rfl, _⟩ := h
    rfl
  · obtain ⟨a, ns, many, rfl, hS, hlen, hm, q⟩ := h
    refine ⟨_, (pss_cons (ps_set (i := 2) sc__law_draws.nd rfl (Or.inl rfl) (pe_lst pa_nil))
      (pss_cons (ps_set (i := 3) sc__law_draws.nd rfl (Or.inl rfl) pe_int)
      (pss_cons (ps_for PassesOwn.never rfl (pi_range1 (by rfl) T.n_range (pa_cons (pe_callB call_len_seq (by rfl) T.n_len PySem.boot_len (pa_cons (pv 0) pa_nil)) pa_nil)) (pg_name (i := 4) sc__law_draws.nd rfl (Or.inl rfl))
        (pss_cons (ps_set (i := 5) sc__law_draws.nd rfl (Or.inl rfl) (pe_callB call_abs (by rfl) T.n_abs (by decide +kernel) (pa_cons (pe_callTy call_int1 (by rfl) T.n_int (by decide +kernel) (pa_cons (pe_ix ix_list (pv 0) (pv 4) (fun _ _ => rfl)) pa_nil)) pa_nil)))
        (pss_cons (ps_set (i := 3) sc__law_draws.nd rfl (Or.inl rfl) (pe_op op_mod (pe_callTy call_int1 (by rfl) T.n_int (by decide +kernel) (pa_cons (pe_op op_add (pe_op op_add (pe_op op_mul (pv 3) pe_int) (pe_op op_mod (pv 5) pe_int)) (pv 4)) pa_nil)) pe_int))
        (pss_cons (ps_set (i := 6) sc__law_draws.nd rfl (Or.inl rfl) pe_int)
        (C8.pss_cut (ps_if (pt_cmpR op_ge (pv 5) (pe_op op_pow pe_int pe_int) (nomark _)) (pss_one (ps_set (i := 6) sc__law_draws.nd rfl (Or.inl rfl) (pv 5))) (pss_cons (ps_expr (pe_bm PySem.F.plainAttrs_list PySem.F.slot_list_append PySem.F.type_list_append mt_append (pv 2) (pa_cons (pe_op op_mod (pv 5) pe_int) pa_nil)))
          (pss_one (ps_expr (pe_bm PySem.F.plainAttrs_list PySem.F.slot_list_append PySem.F.type_list_append mt_append (pv 2) (pa_cons (pe_op op_mod (pe_op op_mod (pe_callTy call_int1 (by rfl) T.n_int (by decide +kernel) (pa_cons (pe_op op_add (pe_op op_mul (pv 3) pe_int) pe_int) pa_nil)) pe_int) pe_int) pa_nil))))))
        (pss_one (ps_for PassesOwn.never rfl (pi_range1 (by rfl) T.n_range (pa_cons pe_int pa_nil)) (pg_name (i := 7) sc__law_draws.nd rfl (Or.inl rfl))
          (pss_one (ps_if (pt_cmpR op_gt (pv 6) pe_int (nomark _)) (pss_cons (ps_expr (pe_bm PySem.F.plainAttrs_list PySem.F.slot_list_append PySem.F.type_list_append mt_append (pv 2) (pa_cons (pe_op op_mod (pe_callTy call_int1 (by rfl) T.n_int (by decide +kernel) (pa_cons (pv 6) pa_nil)) pe_int) pa_nil)))
            (pss_one (ps_set (i := 6) sc__law_draws.nd rfl (Or.inl rfl) (pe_op op_fdiv (pv 6) pe_int)))) pss_nil)))))))))
      (pss_cons (ps_for PassesOwn.never rfl (pi_range1 (by rfl) T.n_range (pa_cons (pv 1) pa_nil)) (pg_name (i := 4) sc__law_draws.nd rfl (Or.inl rfl))
        (pss_cons (ps_set (i := 3) sc__law_draws.nd rfl (Or.inl rfl) (pe_op op_mod (pe_callTy call_int1 (by rfl) T.n_int (by decide +kernel) (pa_cons (pe_op op_add (pe_op op_add (pe_op op_mul (pv 3) pe_int) (pv 4)) pe_int) pa_nil)) pe_int))
        (pss_one (ps_expr (pe_bm PySem.F.plainAttrs_list PySem.F.slot_list_append PySem.F.type_list_append mt_append (pv 2) (pa_cons (pe_op op_mod (pe_callTy call_int1 (by rfl) T.n_int (by decide +kernel) (pa_cons (pv 3) pa_nil)) pe_int) pa_nil))))))
      (pss_one (ps_ret (pe_slice sl_list (pv 2) po_none (po_some (pv 1))))))))), ?_⟩
    refine ⟨Nat.zero_le _, fun o ho => ?_⟩
    have s1 := same_upd (o := .lst []) ho
    -- each cell
    refine ⟨_, rfl, a, _, rfl, .inl (s1.seq hS), _, rfl, by rw [List.length_map]; omega, by rw [List.length_map]; omega, for_range (lo := 0) (n := _) (fun i σ H2 => ∃ (ds : List Int) (mx : Int) (x4 x5 x6 x7 : Option V), σ = [some (.ref a), some (.int (many : Int)), some (.ref o), some (.int mx), x4, x5, x6, x7] ∧ Same H H2 ∧ H2 o = some (.lst (ds.map V.int)) ∧ Drawn ds ∧ ds.length ≤ 62 * i)
      ⟨[], 7, none, none, none, none, rfl, s1, upd_same, (fun _ h => by cases h), Nat.le_refl _⟩ ?_ ?_⟩
    · rintro i σ H2 hi ⟨ds, mx, x4, x5, x6, x7, rfl, g1, g2, g3, g4⟩
      rw [List.length_map] at hi
      have hi' : i < ns.length := by omega
      have hg : ns[i]? = some ns[i] := List.getElem?_eq_getElem hi'
      have ha : atI (ns.map V.int) (0 + (i : Int)) = some (.int ns[i]) := by rw [Int.zero_add]; exact at_map hg
      generalize ns[i] = c at ha
      -- cell, mixed
      refine ⟨_, rfl, _, rfl, a, _, _, _, rfl, rfl, g1.seq hS, ha, .inl ⟨_, rfl, _, rfl, ?_⟩⟩
      dsimp only
      have hc : 0 ≤ (if c < 0 then -c else c) := by split <;> omega
      generalize (if c < 0 then -c else c) = cell at hc
      refine ⟨_, rfl, _, _, rfl, rfl, .inr ⟨by decide, by decide⟩, _, rfl, _, _, rfl, rfl, (by show (0 : Int) < _; decide), _, _, rfl, rfl, _, rfl, _, _, rfl, rfl, .inl ⟨_, rfl, _, _, rfl, rfl, (by show (0 : Int) < _; decide), ?_⟩⟩
      dsimp only
      generalize (mx * 48271 + cell % 1000003 + (0 + (i : Int))) % 65537 = mx2
      -- rest = 0; if cell >= 10 ** 18
      refine ⟨fun σ' H' => ∃ (ds' : List Int) (rest : Int) , 0 ≤ rest ∧ σ' = [some (.ref a), some (.int (many : Int)), some (.ref o), some (.int mx2), some (.int (0 + (i : Int))), some (.int cell), some (.int rest), x7] ∧ Same H H' ∧ H' o = some (.lst (ds'.map V.int)) ∧ Drawn ds' ∧ ds'.length ≤ 62 * i + 2, ?_, ?_⟩
      · refine ⟨_, rfl, _, _, rfl, rfl, ⟨by decide, by decide, by decide⟩, _, _, rfl, rfl, _, rfl, ifd (fun hb => ?_) (fun hb => ?_)⟩
        · exact ⟨_, rfl, ds, cell, hc, rfl, g1, g2, g3, by omega⟩
        · refine ⟨_, rfl, .inl ⟨rfl, _, sql g2⟩, _, rfl, _, _, rfl, rfl, (by show (0 : Int) < _; decide), o, _, _, rfl, rfl, g2, szl (by rw [List.length_map]; omega), ?_⟩
          refine ⟨_, rfl, .inl ⟨rfl, _, sql upd_same⟩, _, rfl, _, _, rfl, rfl, .inr ⟨by decide, by decide⟩, _, _, rfl, rfl, .inl ⟨_, rfl, _, _, rfl, rfl, (by show (0 : Int) < _; decide), _, _, rfl, rfl, (by show (0 : Int) < _; decide), o, _, _, rfl, rfl, upd_same, szl (by rw [List.length_append, List.length_map]; simp only [List.length_cons, List.length_nil]; omega), ?_⟩⟩
          refine ⟨ds ++ [cell % 997, (mx2 * 69621 + 5) % 65521 % 997], 0, Int.le_refl _, rfl, same_put (same_put g1 ho) ho, ?_, drawn_app g3 fun d hd => ?_, by rw [List.length_append]; simp only [List.length_cons, List.length_nil]; omega⟩
          · rw [upd_same, List.map_append, List.append_assoc]
            rfl
          · simp only [List.mem_cons, List.not_mem_nil, or_false] at hd
            rcases hd with rfl | rfl
            · exact ⟨Int.emod_nonneg _ (by decide), Int.emod_lt_of_pos _ (by decide)⟩
            · exact ⟨Int.emod_nonneg _ (by decide), Int.emod_lt_of_pos _ (by decide)⟩
      rintro σ' H' ⟨ds', rest, hr0, rfl, k1, k2, k3, k4⟩
      -- sixty times
      refine ⟨60, rfl, by decide, by decide, for_range (lo := 0) (n := 60) (fun j σ H3 => ∃ (es : List Int) (rest : Int) (x7 : Option V), 0 ≤ rest ∧ σ = [some (.ref a), some (.int (many : Int)), some (.ref o), some (.int mx2), some (.int (0 + (i : Int))), some (.int cell), some (.int rest), x7] ∧ Same H H3 ∧ H3 o = some (.lst (es.map V.int)) ∧ Drawn es ∧ es.length ≤ 62 * i + 2 + j)
        ⟨ds', rest, x7, hr0, rfl, k1, k2, k3, k4⟩ ?_ ?_⟩
      · rintro j σ H3 hj ⟨es, rest, x7, h0, rfl, k1, k2, k3, k4⟩
        refine ⟨_, rfl, _, _, rfl, rfl, _, rfl, ifd (fun hb => ?_) (fun hb => ?_)⟩
        · refine ⟨_, rfl, .inl ⟨rfl, _, sql k2⟩, _, rfl, .inl ⟨_, rfl, _, _, rfl, rfl, (by show (0 : Int) < _; decide), o, _, _, rfl, rfl, k2, szl (by rw [List.length_map]; omega), ?_⟩⟩
          refine ⟨_, rfl, _, _, rfl, rfl, ⟨by decide, by decide⟩, ?_⟩
          refine ⟨es ++ [rest % 997], rest / 997, some (.int (0 + (j : Int))), Int.ediv_nonneg h0 (by decide), rfl, same_put k1 ho, ?_, drawn_app k3 (drawn_one (Int.emod_nonneg _ (by decide)) (Int.emod_lt_of_pos _ (by decide))), by rw [List.length_append]; simp only [List.length_cons, List.length_nil]; omega⟩
          rw [upd_same, List.map_append]
          rfl
        · exact ⟨es, rest, some (.int (0 + (j : Int))), h0, rfl, k1, k2, k3, by omega⟩
      · rintro σ H3 ⟨es, rest, x7, h0, rfl, k1, k2, k3, k4⟩
        exact ⟨es, mx2, _, _, _, _, rfl, k1, k2, k3, by omega⟩
    · rintro σ H2 ⟨ds, mx, x4, x5, x6, x7, rfl, g1, g2, g3, g4⟩
      have hl0 : ds.length ≤ 4000 := by
        simp only [List.length_map] at g4
        omega
      refine ⟨_, rfl, (many : Int), rfl, by omega, by omega, for_range (lo := 0) (n := (many : Int).toNat) (fun i σ H3 => ∃ (es : List Int) (mx : Int) (x4 : Option V), σ = [some (.ref a), some (.int (many : Int)), some (.ref o), some (.int mx), x4, x5, x6, x7] ∧ Same H H3 ∧ H3 o = some (.lst (es.map V.int)) ∧ Drawn es ∧ es.length = ds.length + i)
        ⟨ds, mx, x4, rfl, g1, g2, g3, rfl⟩ ?_ ?_⟩
      · rintro i σ H3 hi ⟨es, mx, x4, rfl, k1, k2, k3, k4⟩
        refine ⟨_, rfl, _, _, rfl, rfl, .inr ⟨by decide, by decide⟩, _, rfl, _, _, rfl, rfl, _, _, rfl, rfl, .inl ⟨_, rfl, _, _, rfl, rfl, (by show (0 : Int) < _; decide), ?_⟩⟩
        refine ⟨_, rfl, .inl ⟨rfl, _, sql k2⟩, _, rfl, .inl ⟨_, rfl, _, _, rfl, rfl, (by show (0 : Int) < _; decide), o, _, _, rfl, rfl, k2, szl (by rw [List.length_map]; omega), ?_⟩⟩
        refine ⟨es ++ [(mx * 16807 + (0 + (i : Int)) + 1) % 65537 % 997], (mx * 16807 + (0 + (i : Int)) + 1) % 65537, some (.int (0 + (i : Int))), rfl, same_put k1 ho, ?_, drawn_app k3 (drawn_one (Int.emod_nonneg _ (by decide)) (Int.emod_lt_of_pos _ (by decide))), by rw [List.length_append, k4]; simp only [List.length_cons, List.length_nil]; omega⟩
        rw [upd_same, List.map_append]
        rfl
      · rintro σ H3 ⟨es, mx, x4, rfl, k1, k2, k3, k4⟩
        refine ⟨_, rfl, _, rfl, _, rfl, o, _, rfl, sql k2, fun p hp => ?_⟩
        refine q p _ (es.take many) (k1.free hp) (k1.trans (same_upd hp)) ?_ (drawn_take _ k3) (by rw [List.length_take]; omega)
        rw [upd_same, cut0n, List.map_take]
end
/-! a text, many times over -/
theorem fold_cps : ∀ (k : Nat) (x acc : Array Nat), ((List.replicate k x).foldl (· ++ ·) acc).toList = acc.toList ++ (List.replicate k x.toList).flatten
  | 0, x, acc => by simp
  | k + 1, x, acc => by
    rw [List.replicate_succ, List.foldl_cons, fold_cps k, List.replicate_succ, List.flatten_cons, Array.toList_append, List.append_assoc]
theorem mul_list {x : Str} {n : Int} (hn : 1 ≤ n) : (PySem.Txt.mul x n).cps.toList = (List.replicate n.toNat x.cps.toList).flatten := by
  unfold PySem.Txt.mul
  rw [if_neg (by omega)]
  split
  · rename_i h
    rw [Bool.or_eq_true, beq_iff_eq, beq_iff_eq] at h
    rcases h with h | h
    · subst h
      simp
    · have : x.cps.toList = [] := List.eq_nil_of_length_eq_zero (by rw [← zlen]; exact h)
      rw [this]
      simp
  · have := fold_cps n.toNat x.cps #[]
    rw [this]
    rfl
theorem mul_len {x : Str} {n : Int} (hn : 1 ≤ n) : (PySem.Txt.mul x n).length = n.toNat * x.length := by
  rw [zlen, zlen, mul_list hn]
  simp
def rRepS : R2 := fun x y H Q => ∃ i n, x = .str i ∧ y = .int n ∧ 1 ≤ n ∧ n ≤ 100000 ∧ n.toNat * i.length ≤ 100000 ∧ Q (.str (PySem.Txt.mul i n)) H
theorem op_repS {X : Cx} : OpR X (binaryOp .Mult) rRepS := by
  intro pins s σ H x y v u Q I rx ry h
  obtain ⟨i, n, rfl, rfl, h1, h2, h3, q⟩ := h
  obtain ⟨t, rfl⟩ := rx
  obtain ⟨t', rfl⟩ := ry
  refine PySem.SB.mul ⟨?_, fun _ hx => ?_, fun _ _ => ?_⟩ fun t' k => ⟨.str (PySem.Txt.mul i n), H, I.tok _, ⟨_, rfl⟩, q⟩
  · rw [Bool.or_eq_false_iff]
    exact ⟨decide_eq_false (by omega), decide_eq_false (by omega)⟩
  · have h4 : i.length ≤ 100000 := by
      have : 1 * i.length ≤ n.toNat * i.length := Nat.mul_le_mul_right _ (by omega)
      omega
    have h5 : (2 ^ 63 - 1 : Int) / 100000 ≤ (2 ^ 63 - 1) / n := by
      rw [Int.le_ediv_iff_mul_le (by omega)]
      have : (2 ^ 63 - 1 : Int) / 100000 * n ≤ (2 ^ 63 - 1 : Int) / 100000 * 100000 := Int.mul_le_mul_of_nonneg_left h2 (by decide)
      omega
    omega
  · show decide (i.length * n.toNat > sizeLine) = false
    rw [Nat.mul_comm]
    exact decide_eq_false (by rw [sizeLine_eq]; omega)
/-! how long a run of signs may be -/
def badB (b : Int) : Bool := decide (94 < b) || decide (b = 5)
def badN (l : List Int) : Nat := (l.filter badB).length
def win (l : List Int) (a n : Nat) : List Int := (l.drop a).take n
theorem badN_app (a b : List Int) : badN (a ++ b) = badN a + badN b := by
  unfold badN
  rw [List.filter_append, List.length_append]
/-- a run that begins where the list begins, a run anywhere -/
structure Runs (S : Nat) (l : List Int) : Prop where
  p : ∀ n, n ≤ l.length → n ≤ S + 283 * badN (l.take n)
  w : ∀ a n, a + n ≤ l.length → n ≤ S + 283 * (1 + badN (win l a n))
theorem Runs.small {l : List Int} {S : Nat} (h : l.length ≤ S) : Runs S l := ⟨fun n hn => by omega, fun a n hn => by omega⟩
theorem Runs.mono {l : List Int} {S T : Nat} (h : Runs S l) (hs : S ≤ T) : Runs T l := ⟨fun n hn => by have := h.p n hn; omega, fun a n hn => by have := h.w a n hn; omega⟩
theorem Runs.text {r : List Int} (h : r.length ≤ 282) : Runs 0 (5 :: r) := by
  refine ⟨fun n hn => ?_, fun a n hn => ?_⟩
  · cases n with
    | zero => omega
    | succ n =>
      rw [List.length_cons] at hn
      have : 1 ≤ badN ((5 :: r).take (n + 1)) := by
        rw [List.take_succ_cons]
        unfold badN
        rw [List.filter_cons_of_pos (by decide), List.length_cons]
        omega
      omega
  · rw [List.length_cons] at hn
    omega
theorem Runs.app {l r : List Int} {S T : Nat} (h : Runs S l) (g : Runs T r) : Runs (S + T) (l ++ r) := by
  refine ⟨fun n hn => ?_, fun a n hn => ?_⟩
  · rw [List.length_append] at hn
    by_cases hc : n ≤ l.length
    · rw [List.take_append_of_le_length hc]
      have := h.p n hc
      omega
    · have e : (l ++ r).take n = l ++ r.take (n - l.length) := by
        rw [List.take_append, List.take_of_length_le (by omega)]
      rw [e, badN_app]
      have h1 := h.p l.length (Nat.le_refl _)
      rw [List.take_length] at h1
      have h2 := g.p (n - l.length) (by omega)
      omega
  · rw [List.length_append] at hn
    by_cases hc : l.length ≤ a
    · have e : win (l ++ r) a n = win r (a - l.length) n := by
        unfold win
        rw [List.drop_append, List.drop_of_length_le hc, List.nil_append]
      rw [e]
      have := g.w (a - l.length) n (by omega)
      omega
    · by_cases hd : a + n ≤ l.length
      · have e : win (l ++ r) a n = win l a n := by
          unfold win
          rw [List.drop_append_of_le_length (by omega), List.take_append_of_le_length (by rw [List.length_drop]; omega)]
        rw [e]
        have := h.w a n hd
        omega
      · have e : win (l ++ r) a n = win l a (l.length - a) ++ r.take (n - (l.length - a)) := by
          have e1 : (l.drop a).take n = l.drop a := List.take_of_length_le (by rw [List.length_drop]; omega)
          have e2 : (l.drop a).take (l.length - a) = l.drop a := List.take_of_length_le (by rw [List.length_drop]; omega)
          unfold win
          rw [List.drop_append_of_le_length (by omega), List.take_append, List.length_drop, e1, e2]
        rw [e, badN_app]
        have h1 := h.w a (l.length - a) (by omega)
        have h2 := g.p (n - (l.length - a)) (by omega)
        omega
/-- with k bytes changed -/
def RunsK (S k : Nat) (l : List Int) : Prop := ∀ a n, a + n ≤ l.length → n ≤ S + 283 * (1 + k + badN (win l a n))
theorem Runs.k {S : Nat} {l : List Int} (h : Runs S l) : RunsK S 0 l := fun a n hn => by have := h.w a n hn; omega
theorem badN_set : ∀ (l : List Int) (i : Nat) (x : Int), badN l ≤ badN (l.set i x) + 1
  | [], _, _ => by simp [badN]
  | y :: l, 0, x => by
    unfold badN
    rw [List.set_cons_zero]
    have h1 : ((y :: l).filter badB).length ≤ (l.filter badB).length + 1 := by
      rw [List.filter_cons]; split
      · exact Nat.le_refl _
      · omega
    have h2 : (l.filter badB).length ≤ ((x :: l).filter badB).length := by
      rw [List.filter_cons]; split
      · rw [List.length_cons]; omega
      · exact Nat.le_refl _
    omega
  | y :: l, i + 1, x => by
    have := badN_set l i x
    unfold badN at this ⊢
    rw [List.set_cons_succ, List.filter_cons, List.filter_cons]
    split
    · rw [List.length_cons, List.length_cons]; omega
    · exact this
theorem RunsK.set {S k : Nat} {l : List Int} (h : RunsK S k l) (i : Nat) (x : Int) : RunsK S (k + 1) (l.set i x) := fun a n hn => by
  rw [List.length_set] at hn
  have h1 := h a n hn
  have h2 : badN (win l a n) ≤ badN (win (l.set i x) a n) + 1 := by
    unfold win
    by_cases hi : i < a
    · rw [List.drop_set_of_lt hi]
      omega
    · rw [List.drop_set, if_neg (by omega), List.take_set]
      exact badN_set _ _ _
  omega
/-- a run of 2000 signs holds a byte that is none -/
def NoRun (l : List Int) : Prop := ∀ i, i + 2000 ≤ l.length → ∃ j, j < 2000 ∧ ∃ b, l[i + j]? = some b ∧ badB b = true
theorem RunsK.no {S k : Nat} {l : List Int} (h : RunsK S k l) (hs : S + 283 * (1 + k) < 2000) : NoRun l := fun i hi => by
  have h1 := h i 2000 hi
  have h2 : 0 < badN (win l i 2000) := by omega
  unfold badN at h2
  obtain ⟨b, hb⟩ := List.exists_mem_of_length_pos h2
  obtain ⟨hm, hbad⟩ := List.mem_filter.mp hb
  obtain ⟨j, hj, e⟩ := List.mem_iff_getElem.mp hm
  have hlen : (win l i 2000).length ≤ 2000 := by unfold win; rw [List.length_take]; omega
  refine ⟨j, by omega, b, ?_, hbad⟩
  have e2 : (win l i 2000)[j]? = some b := by rw [List.getElem?_eq_getElem hj, e]
  unfold win at e2
  rw [List.getElem?_take_of_lt (by omega), List.getElem?_drop] at e2
  exact e2
theorem NoRun.short {l : List Int} (h : l.length < 2000) : NoRun l := fun i hi => by omega
mutual
def gd : PyData → Bool
  | .none => true
  | .bool _ => true
  | .int i => bitsOk i
  | .str x => decide (x.length ≤ 60000) && plainS x
  | .tuple ds => decide (ds.length ≤ 60000) && gdA ds
  | _ => false
def gdA : List PyData → Bool
  | [] => true
  | d :: ds => gd d && gdA ds
end
mutual
def ldep : PyData → Nat
  | .tuple ds => ldepA ds + 1
  | _ => 0
def ldepA : List PyData → Nat
  | [] => 0
  | d :: ds => max (ldep d) (ldepA ds)
end
mutual
theorem okV_of : ∀ (n : Nat) (d : PyData), gd d = true → ldep d ≤ n → okV n d = true
  | n, .none, _, _ => okV_non n
  | n, .bool b, _, _ => okV_bl n b
  | n, .int i, h, _ => by cases n <;> simpa [okV, gd] using h
  | n, .str x, h, _ => by cases n <;> simpa [okV, gd] using h
  | 0, .tuple ds, _, h => by simp [ldep] at h
  | n + 1, .tuple ds, h, h2 => by
    simp only [gd, Bool.and_eq_true] at h
    rw [okV_tup, h.1, Bool.true_and]
    exact okA_of n ds h.2 (by simp only [ldep] at h2; omega)
  | _, .list _, h, _ => by simp [gd] at h
  | _, .dict _, h, _ => by simp [gd] at h
theorem okA_of : ∀ (n : Nat) (ds : List PyData), gdA ds = true → ldepA ds ≤ n → okA n ds = true
  | _, [], _, _ => by simp [okA]
  | n, d :: ds, h, h2 => by
    simp only [gdA, Bool.and_eq_true] at h
    simp only [ldepA] at h2
    simp only [okA, Bool.and_eq_true]
    exact ⟨okV_of n d h.1 (by omega), okA_of n ds h.2 (by omega)⟩
end
mutual
theorem gd_fits : ∀ d : PyData, gd d = true → fits d = true
  | .none, _ => by simp [fits]
  | .bool b, _ => by simp [fits]
  | .int i, _ => by simp [fits]
  | .str x, h => by
    simp only [gd, Bool.and_eq_true, decide_eq_true_eq] at h
    simp only [fits, decide_eq_true_eq]
    omega
  | .tuple ds, h => by
    simp only [gd, Bool.and_eq_true, decide_eq_true_eq] at h
    simp only [fits, Bool.and_eq_true, decide_eq_true_eq]
    exact ⟨by omega, gdA_fits ds h.2⟩
  | .list _, h => by simp [gd] at h
  | .dict _, h => by simp [gd] at h
theorem gdA_fits : ∀ ds : List PyData, gdA ds = true → fitsA ds = true
  | [], _ => by simp [fitsA]
  | d :: ds, h => by
    simp only [gdA, Bool.and_eq_true] at h
    simp only [fitsA, Bool.and_eq_true]
    exact ⟨gd_fits d h.1, gdA_fits ds h.2⟩
end
theorem gdA_app : ∀ {ds es : List PyData}, gdA ds = true → gdA es = true → gdA (ds ++ es) = true
  | [], _, _, h => h
  | d :: ds, es, h, g => by
    simp only [gdA, Bool.and_eq_true] at h
    show gdA (d :: (ds ++ es)) = true
    simp only [gdA, Bool.and_eq_true]
    exact ⟨h.1, gdA_app h.2 g⟩
theorem pkA_app : ∀ (ds es : List PyData), pkA (ds ++ es) = pkA ds ++ pkA es
  | [], _ => by simp [pkA]
  | d :: ds, es => by
    show pkA (d :: (ds ++ es)) = _
    simp only [pkA]
    rw [pkA_app ds es, List.append_assoc]
theorem ldepA_app : ∀ (ds es : List PyData), ldepA (ds ++ es) = max (ldepA ds) (ldepA es)
  | [], es => by simp [ldepA]
  | d :: ds, es => by
    show ldepA (d :: (ds ++ es)) = _
    simp only [ldepA]
    rw [ldepA_app ds es]
    omega
theorem ldepA_take {i : Nat} {ds : List PyData} {d : PyData} (h : ds[i]? = some d) : ldepA (ds.take (i + 1)) = max (ldepA (ds.take i)) (ldep d) := by
  rw [take_more h, ldepA_app]
  simp [ldepA]
theorem ldepA_at : ∀ {ds : List PyData} {i : Nat} {d : PyData}, ds[i]? = some d → ldep d ≤ ldepA ds
  | [], i, _, h => by simp at h
  | e :: ds, 0, d, h => by
    simp only [List.getElem?_cons_zero, Option.some.injEq] at h
    subst h
    simp only [ldepA]
    omega
  | e :: ds, i + 1, d, h => by
    have := ldepA_at (ds := ds) (i := i) (by simpa using h)
    simp only [ldepA]
    omega
theorem gdA_at : ∀ {ds : List PyData} {i : Nat} {d : PyData}, gdA ds = true → ds[i]? = some d → gd d = true
  | [], i, _, _, h => by simp at h
  | e :: ds, 0, d, g, h => by
    simp only [List.getElem?_cons_zero, Option.some.injEq] at h
    subst h
    simp only [gdA, Bool.and_eq_true] at g
    exact g.1
  | e :: ds, i + 1, d, g, h => by
    simp only [gdA, Bool.and_eq_true] at g
    exact gdA_at (ds := ds) (i := i) g.2 (by simpa using h)
theorem pow2_le {a b : Nat} (h : a ≤ b) : (2 : Int) ^ a ≤ 2 ^ b := by
  have := Nat.pow_le_pow_right (show 0 < 2 by decide) h
  exact_mod_cast this
/-- a leaf: small, and no tuple -/
def LeafD (d : PyData) : Prop := gd d = true ∧ ldep d = 0 ∧ (pkL d).length ≤ 700 ∧ Runs 60 (pkL d)
def lwS : Str := (" !\"#$&'()*+,-./0123456789:;<=>?@ABCDEFGHIJKLMNOPQRSTUVWXYZ[\\]^_`" : Str) ++ ("abcdefghijklmnopqrstuvwxyz{|}~" : Str)
theorem lw_at : ∀ j : Nat, j < 94 → (lwS.cps.toList[j]?).any plainC = true := by decide +kernel
theorem lw_len : lwS.length = 94 := by decide +kernel
def sp_char : Sp := fun vs H Q _ => ∃ (d : Int), vs = [.int d] ∧ ∀ c, plainC c = true → Q (.str ⟨#[c]⟩) H
def sp_integer (K : PySem.W.Frag) : Sp := fun vs H Q _ => ∃ (a : Addr) (ds : List Int), vs = [.ref a] ∧ SqL K H a (ds.map V.int) ∧ Drawn ds ∧ 7 ≤ ds.length ∧ ∀ n : Int, n.natAbs < 2 ^ 400 → Q (.int n) H
def sp_leaf (K : PySem.W.Frag) : Sp := fun vs H Q _ => ∃ (a : Addr) (ds : List Int), vs = [.ref a] ∧ SqL K H a (ds.map V.int) ∧ Drawn ds ∧ 10 ≤ ds.length ∧ ds.length ≤ 1000 ∧ ∀ v d H', Same H H' → Dp K H' v d → LeafD d → Q v H'
theorem int_leaf {n : Int} (h : n.natAbs < 2 ^ 400) : LeafD (.int n) := by
  have hb : bitsOk n = true := by
    unfold bitsOk Builtin.Int.intBits
    refine decide_eq_true ?_
    by_cases h0 : n = 0
    · rw [h0]; decide
    · have hb : (n == 0) = false := by simpa using h0
      rw [hb]
      simp only [Bool.false_eq_true, if_false]
      have := (Nat.log2_lt (show n.natAbs ≠ 0 by omega)).mpr h
      omega
  have h58 : (2 : Nat) ^ 400 ≤ 128 ^ (57 + 1) := by
    rw [show (128 : Nat) = 2 ^ 7 by decide, ← Nat.pow_mul]
    exact Nat.pow_le_pow_right (by decide) (by decide)
  have key : (pkL (.int n)).length ≤ 60 := by
    by_cases hn : n < 0
    · rw [show pkL (.int n) = 4 :: enc (-1 - n).toNat by simp [pkL, hn]]
      have := enc_len 57 (-1 - n).toNat (Nat.lt_of_lt_of_le (show (-1 - n).toNat < 2 ^ 400 by omega) h58)
      rw [List.length_cons]
      omega
    · rw [show pkL (.int n) = 3 :: enc n.toNat by simp [pkL, hn]]
      have := enc_len 57 n.toNat (Nat.lt_of_lt_of_le (show n.toNat < 2 ^ 400 by omega) h58)
      rw [List.length_cons]
      omega
  exact ⟨by simpa [gd] using hb, by simp [ldep], by omega, .small key⟩
theorem str_leaf {x : Str} (hl : x.length ≤ 280) (hp : plainS x = true) : LeafD (.str x) := by
  have e : pkL (.str x) = 5 :: (enc x.length ++ x.cps.toList.map fun (c : Nat) => (c : Int) - 32) := by simp [pkL]
  have hle := enc_len 1 x.length (by omega)
  have hr : (enc x.length ++ x.cps.toList.map fun (c : Nat) => (c : Int) - 32).length ≤ 282 := by
    simp only [List.length_append, List.length_map, ← zlen]
    omega
  refine ⟨by simp only [gd, Bool.and_eq_true, decide_eq_true_eq]; exact ⟨by omega, hp⟩, by simp [ldep], ?_, ?_⟩
  · rw [e, List.length_cons]
    omega
  · rw [e]
    exact (Runs.text hr).mono (by decide)
section
variable {P : Program} {w : World} {K : PySem.W.Frag} {mg : Str → Option Value} {base : Heap}
theorem ok__law_char (T : TX K mg) : FnOk P w K mg base CX0 1 T.a__law_char T.d__law_char ["draw"] sp_char := by
  refine T.F__law_char.ok sc__law_char (fun vs H Q E h => ?_) (fun cdv A outer s H vs Q E hr h => ?_)
  · obtain ⟨d, rfl, _⟩ := h
    rfl
  · obtain ⟨d, rfl, q⟩ := h
    refine ⟨_, (pss_cons (ps_set (i := 1) sc__law_char.nd rfl (Or.inl rfl) pe_str)
      (pss_cons (ps_set (i := 1) sc__law_char.nd rfl (Or.inl rfl) (pe_op op_add_str (pv 1) pe_str))
      (pss_one (ps_ret (pe_ix ix_str (pv 1) (pe_op op_mod (pe_callTy call_int1 (by rfl) T.n_int (by decide +kernel) (pa_cons (pv 0) pa_nil)) pe_int) (fun _ _ => rfl)))))), ?_⟩
    refine ⟨_, rfl, _, _, rfl, rfl, by rw [show Str.length _ + Str.length _ = 94 by decide +kernel]; exact sz (by decide), ?_⟩
    obtain ⟨j, hj⟩ := Int.eq_ofNat_of_zero_le (Int.emod_nonneg d (show (94 : Int) ≠ 0 by decide))
    have hj2 : j < 94 := by have := Int.emod_lt_of_pos d (show (0 : Int) < 94 by decide); omega
    have hat := lw_at j hj2
    obtain ⟨c, hc, hp⟩ : ∃ c, lwS.cps.toList[j]? = some c ∧ plainC c = true := by
      cases e : lwS.cps.toList[j]? with
      | none => rw [e] at hat; cases hat
      | some c => exact ⟨c, rfl, by rw [e] at hat; exact hat⟩
    exact ⟨_, rfl, _, rfl, .inl ⟨_, rfl, _, _, rfl, rfl, (by show (0 : Int) < _; decide), _, _, c, rfl, rfl, (show lwS.length ≤ sizeLine from by rw [lw_len]; exact sz (by decide)), (by rw [hj]; exact atI_nat hc), q c hp⟩⟩
theorem ok__law_integer (T : TX K mg) : FnOk P w K mg base CX0 1 T.a__law_integer T.d__law_integer ["draws"] (sp_integer K) := by
  refine T.F__law_integer.ok sc__law_integer (fun vs H Q E h => ?_) (fun cdv A outer s H vs Q E hr h => ?_)
  · obtain ⟨a, ds, rfl, _⟩ := h
    rfl
  · obtain ⟨a, ds, rfl, hS, hd, hl, q⟩ := h
    refine ⟨_, (pss_cons (ps_set (i := 1) sc__law_integer.nd rfl (Or.inl rfl) pe_int)
      (pss_cons (ps_for PassesOwn.never rfl (pi_range1 (by rfl) T.n_range (pa_cons (pe_op op_mod (pe_callTy call_int1 (by rfl) T.n_int (by decide +kernel) (pa_cons (pe_ix ix_list (pv 0) pe_int (fun _ _ => rfl)) pa_nil)) pe_int) pa_nil)) (pg_name (i := 2) sc__law_integer.nd rfl (Or.inl rfl))
        (pss_one (ps_set (i := 1) sc__law_integer.nd rfl (Or.inl rfl) (pe_op op_add (pe_op op_mul (pv 1) (pe_op op_pow pe_int pe_int)) (pe_ix ix_list (pv 0) (pe_op op_add pe_int (pe_op op_mod (pv 2) pe_int)) (fun _ _ => rfl))))))
      (C8.pss_cut (ps_if (pt_cmpR op_eq (pe_op op_mod (pe_ix ix_list (pv 0) pe_int (fun _ _ => rfl)) pe_int) pe_int (nomark _)) (pss_one (ps_set (i := 1) sc__law_integer.nd rfl (Or.inl rfl) (pe_op op_mod (pe_callTy call_int1 (by rfl) T.n_int (by decide +kernel) (pa_cons (pe_ix ix_list (pv 0) pe_int (fun _ _ => rfl)) pa_nil)) pe_int))) pss_nil)
      (pss_cons (ps_if (pt_cmpR op_eq (pe_op op_mod (pe_ix ix_list (pv 0) pe_int (fun _ _ => rfl)) pe_int) pe_int (nomark _)) (pss_one (ps_set (i := 1) sc__law_integer.nd rfl (Or.inl rfl) (pe_op op_sub pe_int (pv 1)))) pss_nil)
      (pss_one (ps_ret (pv 1))))))), ?_⟩
    have gt : ∀ {k : Nat} (h : k < ds.length), atI (ds.map V.int) (k : Int) = some (.int ds[k]) := fun h => at_map (List.getElem?_eq_getElem h)
    have hb : ∀ {k : Nat} (h : k < ds.length), 0 ≤ ds[k] ∧ ds[k] < 997 := fun h => hd _ (List.getElem_mem h)
    have hb0 := hb (show 0 < ds.length by omega)
    refine ⟨_, rfl, a, _, 0, .int ds[0], rfl, rfl, hS, gt (k := 0) (by omega), .inl ⟨_, rfl, _, _, rfl, rfl, (by show (0 : Int) < _; decide), _, rfl, by omega, by omega, ?_⟩⟩
    refine for_range (lo := 0) (n := _) (fun i σ G => H = G ∧ ∃ (n : Int) (x2 : Option V), σ = [some (.ref a), some (.int n), x2] ∧ 0 ≤ n ∧ n < 2 ^ (1 + 42 * i)) ⟨rfl, 1, none, rfl, by decide, by decide⟩ ?_ ?_
    · rintro i σ _ hi ⟨rfl, n, x2, rfl, h0, h1⟩
      have hk : ∃ k : Nat, (1 : Int) + (0 + (i : Int)) % 6 = (k : Int) ∧ k < 7 := ⟨((1 : Int) + (0 + (i : Int)) % 6).toNat, by omega, by omega⟩
      obtain ⟨k, hk, hk7⟩ := hk
      have hbk := hb (show k < ds.length by omega)
      refine ⟨_, rfl, _, _, rfl, rfl, ⟨by decide, by decide, by decide⟩, _, _, rfl, rfl, .inr ⟨by decide, by decide⟩, ?_⟩
      refine ⟨_, rfl, _, rfl, _, _, rfl, rfl, (by show (0 : Int) < _; decide), _, _, rfl, rfl, a, _, (k : Int), .int ds[k], rfl, congrArg V.int hk, hS, gt (by omega), _, _, rfl, rfl, ?_⟩
      refine ⟨rfl, n * 2 ^ 41 + ds[k], _, rfl, ?_, ?_⟩
      · have := Int.mul_nonneg h0 (show (0 : Int) ≤ 2 ^ 41 by decide)
        omega
      · have h2 : (n + 1) * 2 ^ 41 ≤ 2 ^ (1 + 42 * i) * 2 ^ 41 := Int.mul_le_mul_of_nonneg_right (by omega) (by decide)
        rw [← Int.pow_add] at h2
        have h3 : (2 : Int) ^ (1 + 42 * i + 41) ≤ 2 ^ (1 + 42 * (i + 1)) := pow2_le (by omega)
        have h4 : (n + 1) * 2 ^ 41 = n * 2 ^ 41 + 2 ^ 41 := by rw [Int.add_mul, Int.one_mul]
        have h5 : (997 : Int) < 2 ^ 41 := by decide
        omega
    · rintro σ _ ⟨rfl, n, x2, rfl, h0, h1⟩
      have hi9 : (ds[0] % 9).toNat ≤ 8 := by omega
      have hn : n < 2 ^ 400 := by
        have h3 : (2 : Int) ^ (1 + 42 * (ds[0] % 9).toNat) ≤ 2 ^ 400 := pow2_le (by omega)
        have h6 : (ds[0] % 9 - 0).toNat = (ds[0] % 9).toNat := by rw [Int.sub_zero]
        omega
      have big : (300 : Int) < 2 ^ 400 := by decide
      refine ⟨fun σ' G' => ∃ m : Int, 0 ≤ m ∧ m < 2 ^ 400 ∧ σ' = [some (.ref a), some (.int m), x2] ∧ H = G', ?_, ?_⟩
      · refine ⟨_, rfl, a, _, 0, .int ds[0], rfl, rfl, hS, gt (k := 0) (by omega), _, _, rfl, rfl, (by show (0 : Int) < _; decide), rfl, _, rfl, ifd (fun hx => ?_) (fun hx => ⟨n, h0, hn, rfl, rfl⟩)⟩
        refine ⟨_, rfl, a, _, 1, .int ds[1], rfl, rfl, hS, gt (k := 1) (by omega), .inl ⟨_, rfl, _, _, rfl, rfl, (by show (0 : Int) < _; decide), ?_⟩⟩
        exact ⟨_, Int.emod_nonneg _ (by decide), by have := Int.emod_lt_of_pos ds[1] (show (0 : Int) < 300 by decide); omega, rfl, rfl⟩
      · rintro σ _ ⟨m, hm0, hm1, rfl, rfl⟩
        have fin : ∀ z : Int, z.natAbs = m.natAbs → Q (.int z) H := fun z hz => q z (by
          rw [hz]
          have h7 : (m.natAbs : Int) < 2 ^ 400 := by omega
          have h8 : m.natAbs < 2 ^ 400 := by exact_mod_cast h7
          exact h8)
        refine ⟨_, rfl, a, _, 2, .int ds[2], rfl, rfl, hS, gt (k := 2) (by omega), _, _, rfl, rfl, (by show (0 : Int) < _; decide), rfl, _, rfl, ifd (fun hx => ?_) (fun hx => ⟨_, rfl, fin m rfl⟩)⟩
        exact ⟨_, rfl, _, _, rfl, rfl, _, rfl, fin _ (by omega)⟩
end
def LeafV (d : PyData) : Prop := LeafD d
section
variable {P : Program} {w : World} {K : PySem.W.Frag} {mg : Str → Option Value} {base : Heap}
theorem ok__law_leaf (T : TX K mg) : FnOk P w K mg base CX0 2 T.a__law_leaf T.d__law_leaf ["draws"] (sp_leaf K) := by
  refine T.F__law_leaf.ok sc__law_leaf (fun vs H Q E h => ?_) (fun cdv A outer s H vs Q E hr h => ?_)
  · obtain ⟨a, ds, rfl, _⟩ := h
    rfl
  · obtain ⟨a, ds, rfl, hS, hd, hl, hl2, q⟩ := h
    refine ⟨_, (pss_cons (ps_set (i := 1) sc__law_leaf.nd rfl (Or.inl rfl) (pe_op op_mod (pe_callTy call_int1 (by rfl) T.n_int (by decide +kernel) (pa_cons (pe_ix ix_list (pv 0) pe_int (fun _ _ => rfl)) pa_nil)) pe_int))
      (pss_cons (ps_if (pt_cmpR op_eq (pv 1) pe_int (nomark _)) (pss_one (ps_ret pe_non)) pss_nil)
      (pss_cons (ps_if (pt_cmpR op_lt (pv 1) pe_int (nomark _)) (pss_one (ps_ret (pe_cmpR op_eq (pv 1) pe_int (nomark _)))) pss_nil)
      (pss_cons (ps_if (pt_cmpR op_lt (pv 1) pe_int (nomark _)) (pss_one (ps_ret (pe_call (ok__law_integer T) (hr.mono (by decide)) (by rfl) T.g__law_integer T.F__law_integer.kp T.b__law_integer .nil pass0 (pa_cons (pe_slice sl_list (pv 0) (po_some pe_int) (po_some pe_int)) pa_nil)))) pss_nil)
      (pss_cons (ps_set (i := 2) sc__law_leaf.nd rfl (Or.inl rfl) (pe_join pe_str (pe_lc (own := [("draw", 3)]) (g := gName 3) (tt := tYes) (by rfl) sc__law_leaf.nd (pi_list (pe_slice sl_list (pv 0) (po_some pe_int) (po_some (pe_op op_add pe_int (pe_op op_mod (pe_callTy call_int1 (by rfl) T.n_int (by decide +kernel) (pa_cons (pe_ix ix_list (pv 0) pe_int (fun _ _ => rfl)) pa_nil)) pe_int))))) (blkOk_by (own := [("draw", 3)]) (N := ["draws", "kind", "word", "draw"]) (sc := defScope s__law_leaf) (by decide +kernel)) (fun _ _ _ _ _ => pg_name (i := 3) sc__law_leaf.nd rfl (Or.inl rfl)) (fun _ _ _ _ _ => pts_nil) (fun _ _ _ _ _ => (pe_call (ok__law_char T) (hr.mono (by decide)) (by rfl) T.g__law_char T.F__law_char.kp T.b__law_char .nil pass0 (pa_cons (pv 3) pa_nil))))))
      (C8.pss_cut (ps_if (pt_cmpR op_eq (pe_op op_mod (pe_ix ix_list (pv 0) pe_int (fun _ _ => rfl)) pe_int) pe_int (nomark _)) (pss_one (ps_set (i := 2) sc__law_leaf.nd rfl (Or.inl rfl) (pe_op op_repS (pv 2) pe_int))) pss_nil)
      (pss_one (ps_ret (pv 2))))))))), ?_⟩
    have gt : ∀ {k : Nat} (h : k < ds.length), atI (ds.map V.int) (k : Int) = some (.int ds[k]) := fun h => at_map (List.getElem?_eq_getElem h)
    have hb : ∀ {k : Nat} (h : k < ds.length), 0 ≤ ds[k] ∧ ds[k] < 997 := fun h => hd _ (List.getElem_mem h)
    have hb0 := hb (show 0 < ds.length by omega)
    refine ⟨_, rfl, a, _, 0, .int ds[0], rfl, rfl, hS, gt (k := 0) (by omega), .inl ⟨_, rfl, _, _, rfl, rfl, (by show (0 : Int) < _; decide), ?_⟩⟩
    refine ⟨_, rfl, rfl, _, rfl, ifd (fun hx => q .non .none H (Same.refl _) .non ⟨by simp [gd], by simp [ldep], by simp [pkL], .small (by simp [pkL])⟩) (fun hx => ?_)⟩
    refine ⟨_, rfl, _, _, rfl, rfl, _, rfl, ifd (fun hx3 => ?_) (fun hx3 => ?_)⟩
    · exact ⟨_, rfl, rfl, q _ (.bool _) H (Same.refl _) (.bl _) ⟨by simp [gd], by simp [ldep], by simp only [pkL]; show 1 ≤ 700; decide, .small (by simp only [pkL]; show 1 ≤ 60; decide)⟩⟩
    refine ⟨_, rfl, _, _, rfl, rfl, _, rfl, ifd (fun hx6 => ?_) (fun hx6 => ?_)⟩
    · refine ⟨_, rfl, 1, rfl, 9, rfl, a, _, rfl, hS, fun p hp => ?_⟩
      dsimp only
      rw [cut_ints ds (i := 1) (j := 9) (a := 1) (b := 9) rfl rfl]
      have s1 := same_upd (o := .lst (((ds.drop 1).take (9 - 1)).map V.int)) hp
      refine ⟨p, _, rfl, sql upd_same, fun x hx => hd x (List.mem_of_mem_drop (List.mem_of_mem_take hx)), by rw [List.length_take, List.length_drop]; omega, fun n hn => q _ (.int n) _ s1 (.int n) (int_leaf hn)⟩
    have hb8 := hb (show 8 < ds.length by omega)
    obtain ⟨j, hj⟩ : ∃ j : Nat, (1 : Int) + ds[8] % 8 = (j : Int) := ⟨((1 : Int) + ds[8] % 8).toNat, by omega⟩
    refine ⟨⟨_, rfl⟩, ?_⟩
    have l1 : ((ds.drop 1).take (j - 1)).length ≤ 7 := by rw [List.length_take, List.length_drop]; omega
    refine ⟨_, rfl, 1, rfl, _, rfl, a, _, 8, .int ds[8], rfl, rfl, hS, gt (k := 8) (by omega), .inl ⟨_, rfl, _, _, rfl, rfl, (by show (0 : Int) < _; decide), _, _, rfl, rfl, _, rfl, a, _, rfl, hS, fun p hp => ?_⟩⟩
    dsimp only
    rw [cut_ints ds (i := 1) (j := j) (a := 1) rfl hj]
    have s1 := same_upd (o := .lst (((ds.drop 1).take (j - 1)).map V.int)) hp
    have ep : (upd H p (.lst (((ds.drop 1).take (j - 1)).map V.int))) p = some (.lst (((ds.drop 1).take (j - 1)).map V.int)) := upd_same
    generalize (ds.drop 1).take (j - 1) = part at l1 s1 ep
    generalize upd H p (.lst (part.map V.int)) = G1 at s1 ep
    refine ⟨p, rfl, ⟨_, sql ep⟩, fun D hD => ?_⟩
    refine lc_it (walk_list (K := K) (a := p) (xs := part.map V.int)) (fun i G => Same G1 G ∧ ∃ cs : List Nat, G D = some (.lst ((cs.map fun c => (⟨#[c]⟩ : Str)).map V.str)) ∧ (∀ c ∈ cs, plainC c = true) ∧ cs.length = i) ⟨same_upd hD, [], upd_same, (fun _ z => by cases z), rfl⟩ (fun i G _ h => h.1.seq (sql ep)) ?_ ?_
    · rintro i x G G' hi ⟨s2, cs, e2, hp2, hl2⟩ ⟨rfl, hx⟩
      rw [List.length_map] at hi
      obtain ⟨z, hz, rfl⟩ := map_at hx
      refine ⟨rfl, ?_⟩
      dsimp only [tYes]
      refine (if_pos rfl).mpr ?_
      refine ⟨_, rfl, z, rfl, fun c hc => ⟨_, e2, szl (by rw [List.length_map, List.length_map]; omega), same_put s2 hD, cs ++ [c], ?_, ?_, by rw [List.length_append, hl2]; rfl⟩⟩
      · rw [upd_same, List.map_append, List.map_append]; rfl
      · intro y hy
        rcases List.mem_append.mp hy with w | w
        · exact hp2 y w
        · rw [List.mem_singleton] at w
          rw [w]
          exact hc
    · rintro G ⟨s2, cs, e2, hp2, hl2⟩
      rw [List.length_map] at hl2
      refine ⟨"", D, cs.map fun c => (⟨#[c]⟩ : Str), rfl, rfl, .inl (sql e2), ?_, ?_⟩
      · rw [signs_len, List.length_map]
        show cs.length + cs.length * 0 ≤ _
        omega
      rw [join_signs]
      have hw : plainS ⟨cs.toArray⟩ = true := by
        unfold plainS
        rw [List.all_eq_true]
        exact fun x hx => hp2 x (by simpa using hx)
      have hwl : Str.length ⟨cs.toArray⟩ ≤ 7 := by
        show cs.toArray.size ≤ 7
        rw [List.size_toArray]
        omega
      have s12 := s1.trans s2
      generalize (⟨cs.toArray⟩ : Str) = wd at hw hwl
      refine ⟨fun σ' G' => ∃ wd : Str, plainS wd = true ∧ wd.length ≤ 280 ∧ σ' = [some (.ref a), some (.int (ds[0] % 9)), some (.str wd), none] ∧ G = G', ?_, ?_⟩
      · refine ⟨_, rfl, a, _, 9, .int ds[9], rfl, rfl, s12.seq hS, gt (k := 9) (by omega), _, _, rfl, rfl, (by show (0 : Int) < _; decide), rfl, _, rfl, ifd (fun hx => ?_) (fun hx => ⟨wd, hw, by omega, rfl, rfl⟩)⟩
        refine ⟨_, rfl, wd, 40, rfl, rfl, by decide, by decide, by show 40 * wd.length ≤ _; omega, PySem.Txt.mul wd 40, ?_, by rw [mul_len (by decide)]; show 40 * wd.length ≤ _; omega, rfl, rfl⟩
        unfold plainS at hw ⊢
        rw [mul_list (by decide)]
        rw [List.all_eq_true] at hw ⊢
        intro c hc
        obtain ⟨l, hl, hcl⟩ := List.mem_flatten.mp hc
        rw [List.eq_of_mem_replicate hl] at hcl
        exact hw c hcl
      · rintro σ _ ⟨wd, hw, hwl, rfl, rfl⟩
        exact ⟨_, rfl, q _ (.str wd) _ s12 (.str wd) (str_leaf (by omega) hw)⟩
end
theorem cutn0 (xs : List V) (i : Nat) : cutV xs (some (i : Int)) none = xs.drop i := by
  unfold cutV
  rw [sIx_le]
  show (xs.drop (min i xs.length)).take (xs.length - min i xs.length) = _
  rcases Nat.le_total i xs.length with h | h
  · rw [Nat.min_eq_left h, List.take_of_length_le (by rw [List.length_drop]; omega)]
  · rw [Nat.min_eq_right h, Nat.sub_self, List.take_zero, List.drop_of_length_le h]
structure VOk (i : Nat) (es : List PyData) : Prop where
  g : gdA es = true
  l : es.length ≤ i + 3
  d : ldepA es ≤ i
  p : (pkA es).length ≤ 1500 * i
  r : Runs (124 * i) (pkA es)
theorem pk_tup_len {es : List PyData} (h : es.length ≤ 60000) : (pkL (.tuple es)).length ≤ 4 + (pkA es).length := by
  rw [show pkL (.tuple es) = 6 :: (enc es.length ++ pkA es) by simp [pkL]]
  have := enc_len 2 es.length (by omega)
  simp only [List.length_cons, List.length_append]
  omega
theorem Runs.tup {es : List PyData} {S : Nat} (hl : es.length ≤ 60000) (h : Runs S (pkA es)) : Runs (4 + S) (pkL (.tuple es)) := by
  rw [show pkL (.tuple es) = (6 :: enc es.length) ++ pkA es by simp [pkL]]
  refine Runs.app (Runs.small ?_) h
  have := enc_len 2 es.length (by omega)
  rw [List.length_cons]
  omega
theorem VOk.val {i : Nat} {es : List PyData} (h : VOk i es) (hi : i ≤ 100) : gd (.tuple es) = true ∧ ldep (.tuple es) ≤ i + 1 ∧ (pkL (.tuple es)).length ≤ 1500 * i + 4 := by
  have hl := h.l
  refine ⟨by simp only [gd, Bool.and_eq_true, decide_eq_true_eq]; exact ⟨by omega, h.g⟩, by simp only [ldep]; have := h.d; omega, ?_⟩
  have := pk_tup_len (es := es) (by omega)
  have := h.p
  omega
theorem VOk.app {i : Nat} {es : List PyData} {x : PyData} (h : VOk i es) (hx : LeafD x) : VOk (i + 1) (es ++ [x]) where
  g := gdA_app h.g (by simp [gdA, hx.1])
  l := by rw [List.length_append]; have := h.l; simp only [List.length_cons, List.length_nil]; omega
  d := by rw [ldepA_app]; have := h.d; simp only [ldepA, hx.2.1]; omega
  p := by rw [pkA_app, List.length_append]; have := h.p; have := hx.2.2.1; simp only [pkA, List.append_nil]; omega
  r := by rw [pkA_app]; simp only [pkA, List.append_nil]; exact (h.r.app hx.2.2.2).mono (by omega)
theorem VOk.pre {i : Nat} {es : List PyData} {x : PyData} (h : VOk i es) (hx : LeafD x) : VOk (i + 1) (x :: es) where
  g := by simp only [gdA, Bool.and_eq_true]; exact ⟨hx.1, h.g⟩
  l := by rw [List.length_cons]; have := h.l; omega
  d := by have := h.d; simp only [ldepA, hx.2.1]; omega
  p := by have := h.p; have := hx.2.2.1; simp only [pkA, List.length_append]; omega
  r := by simp only [pkA]; exact (hx.2.2.2.app h.r).mono (by omega)
theorem VOk.box {i : Nat} {es : List PyData} (h : VOk i es) (hi : i ≤ 100) {a b : List PyData} (ha : a = [] ∨ ∃ x, a = [x] ∧ LeafD x) (hb : b = [] ∨ ∃ x, b = [x] ∧ LeafD x) : VOk (i + 1) (a ++ .tuple es :: b) := by
  obtain ⟨h1, h2, h3⟩ := h.val hi
  have ga : gdA a = true ∧ ldepA a = 0 ∧ (pkA a).length ≤ 700 ∧ a.length ≤ 1 ∧ Runs 60 (pkA a) := by
    rcases ha with rfl | ⟨x, rfl, hx⟩
    · exact ⟨by simp [gdA], by simp [ldepA], by simp [pkA], by simp, .small (by simp [pkA])⟩
    · exact ⟨by simp [gdA, hx.1], by simp [ldepA, hx.2.1], by simp only [pkA, List.append_nil]; exact hx.2.2.1, by simp, by simp only [pkA, List.append_nil]; exact hx.2.2.2⟩
  have gb : gdA b = true ∧ ldepA b = 0 ∧ (pkA b).length ≤ 700 ∧ b.length ≤ 1 ∧ Runs 60 (pkA b) := by
    rcases hb with rfl | ⟨x, rfl, hx⟩
    · exact ⟨by simp [gdA], by simp [ldepA], by simp [pkA], by simp, .small (by simp [pkA])⟩
    · exact ⟨by simp [gdA, hx.1], by simp [ldepA, hx.2.1], by simp only [pkA, List.append_nil]; exact hx.2.2.1, by simp, by simp only [pkA, List.append_nil]; exact hx.2.2.2⟩
  refine ⟨gdA_app ga.1 (by simp only [gdA, Bool.and_eq_true]; exact ⟨h1, gb.1⟩), ?_, ?_, ?_, ?_⟩
  · rw [List.length_append, List.length_cons]; omega
  · rw [ldepA_app]; simp only [ldepA]; omega
  · rw [pkA_app, List.length_append]; simp only [pkA, List.length_append]; omega
  · rw [pkA_app]; simp only [pkA]; exact (ga.2.2.2.2.app ((Runs.tup (by have := h.l; omega) h.r).app gb.2.2.2.2)).mono (by omega)
def sp_val (K : PySem.W.Frag) : Sp := fun vs H Q _ => ∃ (a : Addr) (ds : List Int) (many : Nat), vs = [.ref a] ∧ SqL K H a (ds.map V.int) ∧ Drawn ds ∧ ds.length = 12 * many ∧ many ≤ 20 ∧ ∀ v es H', Same H H' → Dp K H' v (.tuple es) → VOk many es → Q v H'
section
variable {P : Program} {w : World} {K : PySem.W.Frag} {mg : Str → Option Value} {base : Heap}
theorem ok__law_value (T : TX K mg) : FnOk P w K mg base CX0 3 T.a__law_value T.d__law_value ["draws"] (sp_val K) := by
  refine T.F__law_value.ok sc__law_value (fun vs H Q E h => ?_) (fun cdv A outer s H vs Q E hr h => ?_)
  · obtain ⟨a, ds, many, rfl, _⟩ := h
    rfl
  · obtain ⟨a, ds, many, rfl, hS, hd, hl, hm, q⟩ := h
    refine ⟨_, (pss_cons (ps_set (i := 1) sc__law_value.nd rfl (Or.inl rfl) (pe_tup pa_nil))
      (pss_cons (ps_for PassesOwn.never rfl (pi_range1 (by rfl) T.n_range (pa_cons (pe_op op_fdiv (pe_callB call_len_seq (by rfl) T.n_len PySem.boot_len (pa_cons (pv 0) pa_nil)) pe_int) pa_nil)) (pg_name (i := 2) sc__law_value.nd rfl (Or.inl rfl))
        (pss_cons (ps_set (i := 3) sc__law_value.nd rfl (Or.inl rfl) (pe_slice sl_list (pv 0) (po_some (pe_op op_mul pe_int (pv 2))) (po_some (pe_op op_add (pe_op op_mul pe_int (pv 2)) pe_int))))
        (pss_cons (ps_set (i := 4) sc__law_value.nd rfl (Or.inl rfl) (pe_call (ok__law_leaf T) (hr.mono (by decide)) (by rfl) T.g__law_leaf T.F__law_leaf.kp T.b__law_leaf .nil pass0 (pa_cons (pe_slice sl_list (pv 3) (po_some pe_int) po_none) pa_nil)))
        (pss_cons (ps_set (i := 5) sc__law_value.nd rfl (Or.inl rfl) (pe_op op_mod (pe_callTy call_int1 (by rfl) T.n_int (by decide +kernel) (pa_cons (pe_ix ix_list (pv 3) pe_int (fun _ _ => rfl)) pa_nil)) pe_int))
        (pss_one (ps_if (pt_cmpR op_lt (pv 5) pe_int (nomark _)) (pss_one (ps_set (i := 1) sc__law_value.nd rfl (Or.inl rfl) (pe_op op_catA (pv 1) (pe_tup (pa_cons (pv 4) pa_nil))))) (pss_one (ps_if (pt_cmpR op_eq (pv 5) pe_int (nomark _)) (pss_one (ps_set (i := 1) sc__law_value.nd rfl (Or.inl rfl) (pe_tup (pa_cons (pv 1) (pa_cons (pv 4) pa_nil))))) (pss_one (ps_if (pt_cmpR op_eq (pv 5) pe_int (nomark _)) (pss_one (ps_set (i := 1) sc__law_value.nd rfl (Or.inl rfl) (pe_tup (pa_cons (pv 4) (pa_cons (pv 1) (pa_cons (pv 4) pa_nil)))))) (pss_one (ps_if (pt_cmpR op_eq (pv 5) pe_int (nomark _)) (pss_one (ps_set (i := 1) sc__law_value.nd rfl (Or.inl rfl) (pe_tup (pa_cons (pv 1) pa_nil)))) (pss_one (ps_set (i := 1) sc__law_value.nd rfl (Or.inl rfl) (pe_op op_catA (pe_tup (pa_cons (pv 4) pa_nil)) (pv 1))))))))))))))))
      (pss_one (ps_ret (pv 1))))), ?_⟩
    refine ⟨Nat.zero_le _, fun p0 hp0 => ?_⟩
    have hml : (ds.map V.int).length = ds.length := List.length_map _
    refine ⟨_, rfl, a, _, rfl, .inl ((same_upd hp0).seq hS), _, _, rfl, rfl, ⟨by decide, by decide⟩, _, rfl, by rw [hml]; omega, by rw [hml]; omega, ?_⟩
    refine for_range (lo := 0) (n := _) (fun i σ G => ∃ (p : Addr) (xs : List V) (es : List PyData) (x2 x3 x4 x5 : Option V), σ = [some (.ref a), some (.ref p), x2, x3, x4, x5] ∧ Same H G ∧ SqT K G p xs ∧ DpAll K G xs es ∧ VOk i es ∧ i ≤ 20) ⟨p0, [], [], none, none, none, none, rfl, same_upd hp0, sqt upd_same, .nil, ⟨by simp [gdA], by simp, by simp [ldepA], by simp [pkA], .small (by simp [pkA])⟩, by decide⟩ ?_ ?_
    · rintro i σ G hi ⟨p, xs, es, x2, x3, x4, x5, rfl, s1, hp, hes, hv, _⟩
      rw [hml, hl] at hi
      have hi2 : i < many := by omega
      have e12 : (12 : Int) * (0 + (i : Int)) = ((12 * i : Nat) : Int) := by omega
      have e24 : (12 : Int) * (0 + (i : Int)) + 12 = ((12 * i + 12 : Nat) : Int) := by omega
      refine ⟨_, rfl, _, rfl, _, _, rfl, rfl, .inl ⟨by decide, by decide⟩, _, rfl, _, rfl, _, _, rfl, rfl, .inl ⟨by decide, by decide⟩, _, _, rfl, rfl, _, rfl, a, _, rfl, s1.seq hS, fun pp hpp => ?_⟩
      dsimp only
      rw [cut_ints ds e12 e24]
      have hpl : ((ds.drop (12 * i)).take (12 * i + 12 - 12 * i)).length = 12 := by rw [List.length_take, List.length_drop]; omega
      have hpd : Drawn ((ds.drop (12 * i)).take (12 * i + 12 - 12 * i)) := fun x hx => hd x (List.mem_of_mem_drop (List.mem_of_mem_take hx))
      have s2 := same_upd (o := .lst (((ds.drop (12 * i)).take (12 * i + 12 - 12 * i)).map V.int)) hpp
      have ep : (upd G pp (.lst (((ds.drop (12 * i)).take (12 * i + 12 - 12 * i)).map V.int))) pp = some (.lst (((ds.drop (12 * i)).take (12 * i + 12 - 12 * i)).map V.int)) := upd_same
      generalize (ds.drop (12 * i)).take (12 * i + 12 - 12 * i) = part at hpl hpd s2 ep
      generalize upd G pp (.lst (part.map V.int)) = G1 at s2 ep
      refine ⟨_, rfl, 1, rfl, pp, _, rfl, sql ep, fun p2 hp2 => ?_⟩
      have hcut : cutV (part.map V.int) (some 1) none = (part.drop 1).map V.int := by
        rw [List.map_drop]
        exact cutn0 _ 1
      rw [hcut]
      have s3 := same_upd (o := .lst ((part.drop 1).map V.int)) hp2
      refine ⟨p2, part.drop 1, rfl, sql upd_same, fun x hx => hpd x (List.mem_of_mem_drop hx), by rw [List.length_drop]; omega, by rw [List.length_drop]; omega, fun v d G2 s4 hdv hlf => ?_⟩
      have s24 := (s2.trans s3).trans s4
      have ep2 := (s3.trans s4) _ _ ep
      have h0 : part[0]? = some part[0] := List.getElem?_eq_getElem (by omega)
      have hb0 := hpd part[0] (List.getElem_mem _)
      have hp4 := sqt_same s24 hp
      have hes4 := dpa_same s24 _ hes
      have hxl := dpa_len hes
      have s14 := s1.trans s24
      have hvl := hv.l
      refine ⟨_, rfl, pp, _, 0, .int part[0], rfl, rfl, sql ep2, at_map (i := 0) h0, .inl ⟨_, rfl, _, _, rfl, rfl, (by show (0 : Int) < _; decide), ?_⟩⟩
      have fin : ∀ (p' : Addr) (xs' : List V) (es' : List PyData) (G' : Hp), Same G2 G' → SqT K G' p' xs' → DpAll K G' xs' es' → VOk (i + 1) es' → ∃ (p : Addr) (xs : List V) (es : List PyData) (x2 x3 x4 x5 : Option V), [some (.ref a), some (.ref p'), some (.int (0 + (i : Int))), some (.ref pp), some v, some (.int (part[0] % 6))] = [some (.ref a), some (.ref p), x2, x3, x4, x5] ∧ Same H G' ∧ SqT K G' p xs ∧ DpAll K G' xs es ∧ VOk (i + 1) es ∧ i + 1 ≤ 20 :=
        fun p' xs' es' G' s5 h1 h2 h3 => ⟨p', xs', es', _, _, _, _, rfl, s14.trans s5, h1, h2, h3, by omega⟩
      refine ⟨_, rfl, _, _, rfl, rfl, _, rfl, ifd (fun hc => ?_) (fun hc => ?_)⟩
      · refine ⟨_, rfl, _, rfl, (by show 1 ≤ sizeLine; decide), fun p3 hp3 => ?_⟩
        have s5 := same_upd (o := .tup [v]) hp3
        refine ⟨p, p3, xs, [v], rfl, rfl, sqt_same s5 hp4, sqt upd_same, sz (by simp only [List.length_cons, List.length_nil]; omega), fun hn => ?_, fun _ hn => (by cases hn), fun _ _ p4 hp5 => ?_⟩
        · subst hn
          cases hes4
          exact fin p3 [v] [d] _ s5 (sqt upd_same) (.cons (dp_same s5 _ hdv) .nil) (hv.app hlf)
        · have s6 := s5.trans (same_upd (o := .tup (xs ++ [v])) hp5)
          exact fin p4 (xs ++ [v]) (es ++ [d]) _ s6 (sqt upd_same) (dpa_app (dpa_same s6 _ hes4) (.cons (dp_same s6 _ hdv) .nil)) (hv.app hlf)
      refine ⟨_, rfl, rfl, _, rfl, ifd (fun hc => ?_) (fun hc => ?_)⟩
      · refine ⟨_, rfl, _, rfl, (by show 2 ≤ sizeLine; decide), fun p3 hp3 => ?_⟩
        have s5 := same_upd (o := .tup [.ref p, v]) hp3
        exact fin p3 _ [.tuple es, d] _ s5 (sqt upd_same) (.cons (.tup (sqt_same s5 hp4) (dpa_same s5 _ hes4)) (.cons (dp_same s5 _ hdv) .nil)) (hv.box (by omega) (a := []) (b := [d]) (.inl rfl) (.inr ⟨d, rfl, hlf⟩))
      refine ⟨_, rfl, rfl, _, rfl, ifd (fun hc => ?_) (fun hc => ?_)⟩
      · refine ⟨_, rfl, _, rfl, _, rfl, (by show 3 ≤ sizeLine; decide), fun p3 hp3 => ?_⟩
        have s5 := same_upd (o := .tup [v, .ref p, v]) hp3
        exact fin p3 _ [d, .tuple es, d] _ s5 (sqt upd_same) (.cons (dp_same s5 _ hdv) (.cons (.tup (sqt_same s5 hp4) (dpa_same s5 _ hes4)) (.cons (dp_same s5 _ hdv) .nil))) (hv.box (by omega) (a := [d]) (b := [d]) (.inr ⟨d, rfl, hlf⟩) (.inr ⟨d, rfl, hlf⟩))
      refine ⟨_, rfl, rfl, _, rfl, ifd (fun hc => ?_) (fun hc => ?_)⟩
      · refine ⟨_, rfl, (by show 1 ≤ sizeLine; decide), fun p3 hp3 => ?_⟩
        have s5 := same_upd (o := .tup [.ref p]) hp3
        exact fin p3 _ [.tuple es] _ s5 (sqt upd_same) (.cons (.tup (sqt_same s5 hp4) (dpa_same s5 _ hes4)) .nil) (hv.box (by omega) (a := []) (b := []) (.inl rfl) (.inl rfl))
      · refine ⟨_, rfl, (by show 1 ≤ sizeLine; decide), fun p3 hp3 => ?_⟩
        have s5 := same_upd (o := .tup [v]) hp3
        refine ⟨_, rfl, p3, p, [v], xs, rfl, rfl, sqt upd_same, sqt_same s5 hp4, sz (by simp only [List.length_cons, List.length_nil]; omega), (fun hn => by cases hn), fun _ hn => ?_, fun _ _ p4 hp5 => ?_⟩
        · subst hn
          cases hes4
          exact fin p3 [v] [d] _ s5 (sqt upd_same) (.cons (dp_same s5 _ hdv) .nil) (hv.pre hlf)
        · have s6 := s5.trans (same_upd (o := .tup ([v] ++ xs)) hp5)
          exact fin p4 (v :: xs) (d :: es) _ s6 (sqt upd_same) (.cons (dp_same s6 _ hdv) (dpa_same s6 _ hes4)) (hv.pre hlf)
    · rintro σ G ⟨p, xs, es, x2, x3, x4, x5, rfl, s1, hp, hes, hv, hi⟩
      have : ((((ds.map V.int).length : Nat) : Int) / 12).toNat = many := by rw [hml, hl]; omega
      rw [this] at hv
      exact ⟨_, rfl, q (.ref p) es G s1 (.tup hp hes) hv⟩
end
def sp_lnum (K : PySem.W.Frag) : Sp := fun vs H Q _ => ∃ (n : Nat), vs = [.int (n : Int)] ∧ n < Lim ∧ ∀ p H', H p = none → Same H H' → H' p = some (.lst ((enc n).map V.int)) → Q (.ref p) H'
def spLP (K : PySem.W.Frag) : Nat → Sp
  | 0 => fun _ _ _ _ => False
  | n + 1 => fun vs H Q _ => ∃ (v : V) (d : PyData), vs = [v] ∧ Dp K H v d ∧ okV n d = true ∧ (pkL d).length ≤ 90000 ∧ ∀ p H', H p = none → Same H H' → H' p = some (.lst ((pkL d).map V.int)) → Q (.ref p) H'
section
variable {P : Program} {w : World} {K : PySem.W.Frag} {mg : Str → Option Value} {base : Heap}
theorem ok__law_number (T : TX K mg) : FnOk P w K mg base CX0 1 T.a__law_number T.d__law_number ["number"] (sp_lnum K) := by
  refine T.F__law_number.ok sc__law_number (fun vs H Q E h => ?_) (fun cdv A outer s H vs Q E hr h => ?_)
  · obtain ⟨n, rfl, _⟩ := h
    rfl
  · obtain ⟨n, rfl, hn, q⟩ := h
    refine ⟨_, (pss_cons (ps_set (i := 1) sc__law_number.nd rfl (Or.inl rfl) (pe_lst pa_nil))
      (pss_cons (ps_set (i := 2) sc__law_number.nd rfl (Or.inl rfl) (pv 0))
      (pss_cons (ps_for PassesOwn.never rfl (pi_range1 (by rfl) T.n_range (pa_cons pe_int pa_nil)) (pg_name (i := 3) sc__law_number.nd rfl (Or.inl rfl))
        (pss_cons (ps_if (pt_cmpR op_lt (pv 2) pe_int (nomark _)) (pss_cons (ps_expr (pe_bm PySem.F.plainAttrs_list PySem.F.slot_list_append PySem.F.type_list_append mt_append (pv 1) (pa_cons (pv 2) pa_nil)))
          (pss_one (ps_ret (pv 1)))) pss_nil)
        (pss_cons (ps_expr (pe_bm PySem.F.plainAttrs_list PySem.F.slot_list_append PySem.F.type_list_append mt_append (pv 1) (pa_cons (pe_op op_add (pe_op op_mod (pe_callTy call_int1 (by rfl) T.n_int (by decide +kernel) (pa_cons (pv 2) pa_nil)) pe_int) pe_int) pa_nil)))
        (pss_one (ps_set (i := 2) sc__law_number.nd rfl (Or.inl rfl) (pe_op op_fdiv (pv 2) pe_int))))))
      (pss_one (ps_ret (pv 1)))))), ?_⟩
    have hl := enc_lim hn
    have hpos := enc_pos n
    refine ⟨Nat.zero_le _, fun o ho => ?_⟩
    refine ⟨_, rfl, 500, rfl, by decide, by decide, for_range (lo := 0) (n := 500) (fun t σ G => ∃ (xs : List Int) (m : Nat) (x3 : Option V), σ = [some (.int (n : Int)), some (.ref o), some (.int (m : Int)), x3] ∧ Same H G ∧ G o = some (.lst (xs.map V.int)) ∧ xs ++ enc m = enc n ∧ xs.length = t) ⟨[], n, none, rfl, same_upd ho, upd_same, rfl, rfl⟩ ?_ ?_⟩
    · rintro t σ G ht ⟨xs, m, x3, rfl, s1, e1, hx, hxl⟩
      refine ⟨_, rfl, _, _, rfl, rfl, _, rfl, ifd (fun hc => ?_) (fun hc => ?_)⟩
      · refine ⟨_, rfl, .inl ⟨rfl, _, sql e1⟩, _, rfl, o, _, _, rfl, rfl, e1, szl (by rw [List.length_map]; omega), ?_⟩
        refine ⟨_, rfl, q o _ ho (same_put s1 ho) ?_⟩
        rw [upd_same, ← hx, enc_small (by omega), List.map_append]
        rfl
      · have hm : ¬ m ≤ 127 := by omega
        have e7 : (m : Int) / 128 = ((m / 128 : Nat) : Int) := by rw [Int.natCast_ediv]; rfl
        have e8 : (m : Int) % 128 + 128 = ((128 + m % 128 : Nat) : Int) := by rw [Int.natCast_add, Int.natCast_emod]; show _ + 128 = 128 + _; omega
        refine ⟨_, rfl, .inl ⟨rfl, _, sql e1⟩, _, rfl, .inl ⟨_, rfl, _, _, rfl, rfl, (by show (0 : Int) < _; decide), _, _, rfl, rfl, o, _, _, rfl, rfl, e1, szl (by rw [List.length_map]; omega), ?_⟩⟩
        refine ⟨_, rfl, _, _, rfl, rfl, ⟨by decide, by decide⟩, ?_⟩
        refine ⟨xs ++ [((128 + m % 128 : Nat) : Int)], m / 128, some (.int (0 + (t : Int))), ?_, same_put s1 ho, ?_, ?_, by rw [List.length_append, hxl]; rfl⟩
        · exact congrArg (fun z => [some (V.int (n : Int)), some (V.ref o), some (V.int z), some (V.int (0 + (t : Int)))]) e7
        · rw [upd_same, List.map_append]
          exact congrArg (fun z => some (HO.lst (xs.map V.int ++ [V.int z]))) e8
        · rw [← hx, enc_big hm, List.append_assoc]
          rfl
    · rintro σ G ⟨xs, m, x3, rfl, s1, e1, hx, hxl⟩
      have := congrArg List.length hx
      rw [List.length_append] at this
      have := enc_pos m
      exact absurd hl (by omega)
theorem okn__law_packed (T : TX K mg) : ∀ n : Nat, FnOk P w K mg base CX0 (n + 2) T.a__law_packed T.d__law_packed ["value"] (spLP K n) := by
  intro n
  induction n with
  | zero => exact T.F__law_packed.ok sc__law_packed (fun vs H Q E h => h.elim) (fun cdv A outer s H vs Q E hr h => h.elim)
  | succ n ih__law_packed =>
    refine T.F__law_packed.ok sc__law_packed (fun vs H Q E h => ?_) (fun cdv A outer s H vs Q E hr h => ?_)
    · obtain ⟨v, d, rfl, _⟩ := h
      rfl
    · obtain ⟨v, d, rfl, hd, hok, hl, q⟩ := h
      refine ⟨_, (pss_cons (ps_if (pt_cmpR op_isN (pv 0) pe_non (nomark _)) (pss_one (ps_ret (pe_lst (pa_cons pe_int pa_nil)))) pss_nil)
      (pss_cons (ps_if (pt_val (pe_callB call_isi (by rfl) T.n_isinstance (by decide +kernel) (pa_cons (pv 0) (pa_cons (pe_bltn (v := .ty "bool") (u := .type "bool") (by rfl) T.n_bool (by decide +kernel) rfl) pa_nil)))) (pss_one (ps_ret (pe_lst (pa_cons (pe_op op_add pe_int (pe_callTy call_int1 (by rfl) T.n_int (by decide +kernel) (pa_cons (pv 0) pa_nil))) pa_nil)))) pss_nil)
      (pss_cons (ps_if (pt_val (pe_callB call_isi (by rfl) T.n_isinstance (by decide +kernel) (pa_cons (pv 0) (pa_cons (pe_bltn (v := .ty "int") (u := .type "int") (by rfl) T.n_int (by decide +kernel) rfl) pa_nil)))) (pss_cons (ps_if (pt_cmpR op_lt (pv 0) pe_int (nomark _)) (pss_one (ps_ret (pe_op op_cat (pe_lst (pa_cons pe_int pa_nil)) (pe_call (ok__law_number T) (hr.mono (by omega)) (by rfl) T.g__law_number T.F__law_number.kp T.b__law_number .nil pass0 (pa_cons (pe_op op_sub (pe_op op_sub pe_int pe_int) (pv 0)) pa_nil))))) pss_nil)
        (pss_one (ps_ret (pe_op op_cat (pe_lst (pa_cons pe_int pa_nil)) (pe_call (ok__law_number T) (hr.mono (by omega)) (by rfl) T.g__law_number T.F__law_number.kp T.b__law_number .nil pass0 (pa_cons (pv 0) pa_nil)))))) pss_nil)
      (pss_cons (ps_if (pt_val (pe_callB call_isi (by rfl) T.n_isinstance (by decide +kernel) (pa_cons (pv 0) (pa_cons (pe_bltn (v := .ty "str") (u := .type "str") (by rfl) T.n_str (by decide +kernel) rfl) pa_nil)))) (pss_one (ps_ret (pe_op op_cat (pe_op op_cat (pe_lst (pa_cons pe_int pa_nil)) (pe_call (ok__law_number T) (hr.mono (by omega)) (by rfl) T.g__law_number T.F__law_number.kp T.b__law_number .nil pass0 (pa_cons (pe_callB call_len (by rfl) T.n_len PySem.boot_len (pa_cons (pv 0) pa_nil)) pa_nil))) (pe_lc (own := [("char", 3)]) (g := gName 3) (tt := tYes) (by rfl) sc__law_packed.nd (pi_str (pv 0)) (blkOk_by (own := [("char", 3)]) (N := ["value", "row", "member", "char"]) (sc := defScope s__law_packed) (by decide +kernel)) (fun _ _ _ _ _ => pg_name (i := 3) sc__law_packed.nd rfl (Or.inl rfl)) (fun _ _ _ _ _ => pts_nil) (fun _ _ _ _ _ => (pe_op op_sub (pe_callB call_ord (by rfl) T.n_ord (by decide +kernel) (pa_cons (pv 3) pa_nil)) pe_int)))))) pss_nil)
      (pss_cons (ps_set (i := 1) sc__law_packed.nd rfl (Or.inl rfl) (pe_op op_cat (pe_lst (pa_cons pe_int pa_nil)) (pe_call (ok__law_number T) (hr.mono (by omega)) (by rfl) T.g__law_number T.F__law_number.kp T.b__law_number .nil pass0 (pa_cons (pe_callB call_len (by rfl) T.n_len PySem.boot_len (pa_cons (pv 0) pa_nil)) pa_nil))))
      (pss_cons (ps_for PassesOwn.never rfl (pi_tup (pv 0)) (pg_name (i := 2) sc__law_packed.nd rfl (Or.inl rfl))
        (pss_one (ps_set (i := 1) sc__law_packed.nd rfl (Or.inl rfl) (pe_op op_cat (pv 1) (pe_call ih__law_packed (hr.mono (by omega)) (by rfl) T.g__law_packed T.F__law_packed.kp T.b__law_packed .nil pass0 (pa_cons (pv 2) pa_nil))))))
      (pss_one (ps_ret (pv 1))))))))), ?_⟩
      refine ⟨_, rfl, rfl, _, rfl, ?_⟩
      cases hd with
      | non =>
        refine ifbt rfl ⟨(by show 1 ≤ sizeLine; decide), fun p hp => q p _ hp (same_upd hp) ?_⟩
        rw [upd_same]; simp only [pkL]; rfl
      | bl b =>
        refine ifbf rfl (tisi rfl (.bl b) (ifbt rfl ?_))
        refine ⟨_, rfl, .inr ⟨_, rfl, _, _, rfl, rfl, (by show 1 ≤ sizeLine; decide), fun p hp => q p _ hp (same_upd hp) ?_⟩⟩
        rw [upd_same]
        cases b <;> (simp only [pkL]; rfl)
      | int i =>
        rw [okV_int] at hok
        have hb := bits_lt (of_decide_eq_true hok)
        refine ifbf rfl (tisi rfl (.int i) (ifbf rfl (tisi rfl (.int i) (ifbt rfl ?_))))
        refine ⟨_, rfl, _, _, rfl, rfl, _, rfl, ifd (fun hn => ?_) (fun hn => ?_)⟩
        · refine ⟨(by show 1 ≤ sizeLine; decide), fun a ha => ?_⟩
          have s1 := same_upd (o := .lst [.int 4]) ha
          refine ⟨_, _, rfl, rfl, _, rfl, _, _, rfl, rfl, (-1 - i).toNat, congrArg (fun z => [V.int z]) (by omega), by omega, fun b G hbn s2 eb => ?_⟩
          have ea := s2 _ _ (upd_same (H := H) (a := a) (o := .lst [.int 4]))
          have hel := enc_lim (show (-1 - i).toNat < Lim by omega)
          refine cat_new ea eb (by rw [List.length_map]; simp only [List.length_cons, List.length_nil]; omega) fun p hp => q p _ (none_of (s1.trans s2) hp) ((s1.trans s2).trans (same_upd hp)) ?_
          rw [upd_same]
          have : pkL (.int i) = 4 :: enc (-1 - i).toNat := by simp [pkL, hn]
          rw [this]
          rfl
        · refine ⟨(by show 1 ≤ sizeLine; decide), fun a ha => ?_⟩
          have s1 := same_upd (o := .lst [.int 3]) ha
          refine ⟨_, rfl, i.toNat, congrArg (fun z => [V.int z]) (by omega), by omega, fun b G hbn s2 eb => ?_⟩
          have ea := s2 _ _ (upd_same (H := H) (a := a) (o := .lst [.int 3]))
          have hel := enc_lim (show i.toNat < Lim by omega)
          refine cat_new ea eb (by rw [List.length_map]; simp only [List.length_cons, List.length_nil]; omega) fun p hp => q p _ (none_of (s1.trans s2) hp) ((s1.trans s2).trans (same_upd hp)) ?_
          rw [upd_same]
          have : pkL (.int i) = 3 :: enc i.toNat := by simp [pkL, hn]
          rw [this]
          rfl
      | str x =>
        rw [okV_str] at hok
        obtain ⟨hx1, hx2⟩ := Bool.and_eq_true_iff.mp hok
        have hx : x.length ≤ 60000 := by have := of_decide_eq_true hx1; omega
        refine ifbf rfl (tisi rfl (.str x) (ifbf rfl (tisi rfl (.str x) (ifbf rfl (tisi rfl (.str x) (ifbt rfl ?_))))))
        refine ⟨(by show 1 ≤ sizeLine; decide), fun a ha => ?_⟩
        have s1 := same_upd (o := .lst [.int 5]) ha
        refine ⟨_, rfl, _, _, rfl, ⟨sz (by omega), rfl⟩, x.length, rfl, enc_small_lim (by omega), fun b G hbn s2 eb => ?_⟩
        have ea := s2 _ _ (upd_same (H := H) (a := a) (o := .lst [.int 5]))
        have hel := enc_lim (enc_small_lim (show x.length ≤ 90000 by omega))
        refine cat_new ea eb (by rw [List.length_map]; simp only [List.length_cons, List.length_nil]; omega) fun p hp => ?_
        have s3 := (s1.trans s2).trans (same_upd (o := .lst ([V.int 5] ++ (enc x.length).map V.int)) hp)
        have ep : (upd G p (.lst ([V.int 5] ++ (enc x.length).map V.int))) p = some (.lst ([V.int 5] ++ (enc x.length).map V.int)) := upd_same
        generalize upd G p (.lst ([V.int 5] ++ (enc x.length).map V.int)) = G1 at s3 ep
        refine ⟨_, rfl, x, rfl, fun D hD => ?_⟩
        refine lc_it walk_str (fun i G => Same G1 G ∧ G D = some (.lst (((x.cps.toList.take i).map fun (c : Nat) => (c : Int) - 32).map V.int))) ⟨same_upd hD, upd_same⟩ (fun _ _ _ _ => trivial) ?_ ?_
        · rintro i y G2 G3 hi ⟨s4, e4⟩ ⟨rfl, c, hc, rfl⟩
          refine ⟨rfl, ?_⟩
          dsimp only [tYes]
          refine (if_pos rfl).mpr ?_
          have hxl : x.cps.toList.length ≤ 60000 := by rw [← zlen]; exact hx
          refine ⟨_, rfl, _, rfl, rfl, _, _, rfl, rfl, _, e4, szl (by rw [List.length_map, List.length_map, List.length_take]; omega), same_put s4 hD, ?_⟩
          rw [upd_same, take_more (cps_at hc), List.map_append, List.map_append]
          rfl
        · rintro G2 ⟨s4, e4⟩
          rw [sizeL, List.take_length] at e4
          have hxl : x.cps.toList.length ≤ 60000 := by rw [← zlen]; exact hx
          refine cat_new (s4 _ _ ep) e4 (by simp only [List.length_map, List.length_append, List.length_cons, List.length_nil]; omega) fun p2 hp2 => q p2 _ (none_of (s3.trans s4) hp2) ((s3.trans s4).trans (same_upd hp2)) ?_
          rw [upd_same]
          simp [pkL]
      | lst h a => rw [okV_lst] at hok; cases hok
      | @tup p xs ds h a =>
        cases n with
        | zero => rw [okV_tup0] at hok; cases hok
        | succ m =>
          rw [okV_tup] at hok
          obtain ⟨hl1, hoa⟩ := Bool.and_eq_true_iff.mp hok
          have hdl : ds.length ≤ 60000 := of_decide_eq_true hl1
          have hxl := dpa_len a
          have hpk : pkL (.tuple ds) = 6 :: (enc ds.length ++ pkA ds) := by simp [pkL]
          rw [hpk] at hl q
          have hl2 : (pkA ds).length + (enc ds.length).length + 1 ≤ 90000 := by
            simp only [List.length_cons, List.length_append] at hl
            omega
          refine ifbf rfl (tisi rfl (.tup h a) (ifbf rfl (tisi rfl (.tup h a) (ifbf rfl (tisi rfl (.tup h a) (ifbf rfl ?_))))))
          refine ⟨(by show 1 ≤ sizeLine; decide), fun a1 ha => ?_⟩
          have s1 := same_upd (o := .lst [.int 6]) ha
          refine ⟨_, rfl, _, _, rfl, .inr ⟨_, sqt_same s1 h, rfl⟩, ds.length, by rw [hxl]; rfl, enc_small_lim (by omega), fun b G hbn s2 eb => ?_⟩
          have ea := s2 _ _ (upd_same (H := H) (a := a1) (o := .lst [.int 6]))
          have hel := enc_lim (enc_small_lim (show ds.length ≤ 90000 by omega))
          refine cat_new ea eb (by rw [List.length_map]; simp only [List.length_cons, List.length_nil]; omega) fun r hr1 => ?_
          have s3 := (s1.trans s2).trans (same_upd (o := .lst ([V.int 6] ++ (enc ds.length).map V.int)) hr1)
          have er : (upd G r (.lst ([V.int 6] ++ (enc ds.length).map V.int))) r = some (.lst ((6 :: enc ds.length).map V.int)) := upd_same
          have hrH := none_of (s1.trans s2) hr1
          generalize upd G r (.lst ([V.int 6] ++ (enc ds.length).map V.int)) = G1 at s3 er
          refine ⟨_, rfl, p, rfl, ⟨_, sqt_same s3 h⟩, for_tup (K := K) (a := p) (xs := xs) (fun i σ G => ∃ (r : Addr) (x2 : Option V), σ = [some (.ref p), some (.ref r), x2, none] ∧ Same H G ∧ H r = none ∧ G r = some (.lst (((6 :: enc ds.length) ++ pkA (ds.take i)).map V.int))) ⟨r, none, rfl, s3, hrH, by rw [er]; simp [pkA]⟩ (fun i σ G _ ⟨_, _, _, s, _⟩ => sqt_same s h) ?_ ?_⟩
          · rintro i x σ G2 hx ⟨r, x2, rfl, s4, hrH, e4⟩
            obtain ⟨d, hdi, hdx⟩ := dpa_at a hx
            have hat := pkL_at hdi
            refine ⟨_, rfl, _, rfl, x, d, rfl, dp_same s4 _ hdx, okA_at hoa hdi, by omega, fun b2 G3 hb2 s5 e5 => ?_⟩
            have e6 := s5 _ _ e4
            refine cat_new e6 e5 (by simp only [List.length_map, List.length_append, List.length_cons]; omega) fun p2 hp2 => ?_
            refine ⟨p2, some x, rfl, (s4.trans s5).trans (same_upd hp2), none_of (s4.trans s5) hp2, ?_⟩
            rw [upd_same, pkA_take hdi, ← List.map_append, List.append_assoc]
          · rintro σ G2 ⟨r, x2, rfl, s4, hrH, e4⟩
            rw [hxl, List.take_length] at e4
            exact ⟨_, rfl, q r G2 hrH s4 (by rw [e4]; rfl)⟩
theorem ok__law_packed (T : TX K mg) : FnOk P w K mg base CX0 (23) T.a__law_packed T.d__law_packed ["value"] (spLP K 21) := okn__law_packed T 21
end
/-! what is read was written so -/
theorem rd_inv : ∀ (f c : Nat) (acc : Int) (bs : List Int) (n : Int) (k : Nat), Bytes bs → rdGo f c acc bs = .num n k → ∃ m : Nat, n = acc + m * 128 ^ c ∧ k = c + (enc m).length ∧ bs.take (enc m).length = enc m ∧ (c = 0 ∨ m ≠ 0)
  | 0, _, _, _, _, _, _, h => by cases h
  | _ + 1, _, _, [], _, _, _, h => by cases h
  | f + 1, c, acc, b :: bs, n, k, hb, h => by
    have hb0 := hb b List.mem_cons_self
    have hbr : Bytes bs := fun x hx => hb x (List.mem_cons_of_mem _ hx)
    unfold rdGo at h
    split at h
    · rename_i h128
      split at h
      · cases h
      · rename_i hz
        injection h with h1 h2
        have he : enc b.toNat = [b] := by
          rw [enc_small (by omega)]
          congr 1
          omega
        refine ⟨b.toNat, ?_, by rw [he]; simp only [List.length_cons, List.length_nil]; omega, by rw [he]; rfl, ?_⟩
        · rw [← h1, show ((b.toNat : Nat) : Int) = b by omega]
        · by_cases h0 : b = 0
          · exact .inl (by omega)
          · exact .inr (by omega)
    · rename_i h128
      obtain ⟨m, e1, e2, e3, e4⟩ := rd_inv f (c + 1) _ bs n k hbr h
      have hm : m ≠ 0 := e4.resolve_left (by omega)
      have hbig : enc (128 * m + (b - 128).toNat) = b :: enc m := by
        rw [enc_big (by omega), show (128 * m + (b - 128).toNat) / 128 = m by omega]
        congr 1
        have : (128 * m + (b - 128).toNat) % 128 = (b - 128).toNat := by omega
        rw [this]
        omega
      refine ⟨128 * m + (b - 128).toNat, ?_, ?_, ?_, .inr (by omega)⟩
      · rw [e1, Int.natCast_add, Int.natCast_mul, show (((b - 128).toNat : Nat) : Int) = b - 128 by omega, Int.add_mul, Int.pow_succ]
        have : (((128 : Nat) : Int) * (m : Int)) * 128 ^ c = (m : Int) * (128 ^ c * 128) := by
          rw [Int.mul_comm ((128 : Nat) : Int) (m : Int), Int.mul_assoc, Int.mul_comm ((128 : Nat) : Int) (128 ^ c)]
          rfl
        rw [this]
        omega
      · rw [hbig, List.length_cons, e2]
        omega
      · rw [hbig, List.length_cons, List.take_succ_cons, e3]
theorem rd_can {bs : List Int} {n : Int} {k : Nat} (hb : Bytes bs) (h : rd bs = .num n k) : n = (n.toNat : Int) ∧ enc n.toNat = bs.take k ∧ (enc n.toNat).length = k := by
  obtain ⟨m, e1, e2, e3, _⟩ := rd_inv 500 0 0 bs n k hb h
  have hn : n = (m : Int) := by rw [e1]; omega
  have hm : n.toNat = m := by omega
  have hk : k = (enc m).length := by omega
  rw [hm, hk]
  exact ⟨hn, e3.symm, rfl⟩
theorem tx_can : ∀ (k : Nat) (bs : List Int) (acc cs : List Nat), Bytes bs → txF k bs acc = .ok cs → ∃ ds, cs = acc ++ ds ∧ ds.length = k ∧ (ds.map fun (c : Nat) => (c : Int) - 32) = bs.take k
  | 0, _, acc, cs, _, h => by
    injection h with h
    exact ⟨[], by rw [h, List.append_nil], rfl, by simp⟩
  | _ + 1, [], _, _, _, h => by cases h
  | k + 1, b :: bs, acc, cs, hb, h => by
    have hb0 := hb b List.mem_cons_self
    unfold txF at h
    split at h
    · cases h
    · obtain ⟨ds, e1, e2, e3⟩ := tx_can k bs _ cs (fun x hx => hb x (List.mem_cons_of_mem _ hx)) h
      refine ⟨(b + 32).toNat :: ds, by rw [e1, List.append_assoc]; rfl, by rw [List.length_cons, e2], ?_⟩
      rw [List.map_cons, e3, List.take_succ_cons]
      congr 1
      omega
theorem take_join {l : List Int} {a b : Nat} : l.take a ++ (l.drop a).take b = l.take (a + b) := by rw [List.take_add]
theorem mem_can {f : List Int → TR} (hf : ∀ bs d k, Bytes bs → f bs = .ok d k → pkL d = bs.take k) : ∀ (k : Nat) (bs : List Int) (acc : List PyData) (n : Nat) (d : PyData) (j : Nat), Bytes bs → memF f k bs acc n = .ok d j → ∃ ds, d = .tuple (acc ++ ds) ∧ ds.length = k ∧ n ≤ j ∧ pkA ds = bs.take (j - n)
  | 0, _, acc, n, _, _, _, h => by
    injection h with h1 h2
    exact ⟨[], by rw [← h1, List.append_nil], rfl, by omega, by rw [← h2, Nat.sub_self]; simp [pkA]⟩
  | k + 1, bs, acc, n, d, j, hb, h => by
    unfold memF at h
    cases e : f bs with
    | ok d2 c =>
      rw [e] at h
      obtain ⟨ds, e1, e2, e3, e4⟩ := mem_can hf k (bs.drop c) _ _ d j (bytes_drop c hb) h
      refine ⟨d2 :: ds, by rw [e1, List.append_assoc]; rfl, by rw [List.length_cons, e2], by omega, ?_⟩
      rw [show pkA (d2 :: ds) = pkL d2 ++ pkA ds by simp [pkA], hf bs d2 c hb e, e4, take_join]
      congr 1
      omega
    | trunc => rw [e] at h; cases h
    | malf => rw [e] at h; cases h
theorem tvB_can {mm : Option (List Int → TR)} (hm : ∀ f, mm = some f → ∀ bs d k, Bytes bs → f bs = .ok d k → pkL d = bs.take k) : ∀ (bs : List Int) (d : PyData) (k : Nat), Bytes bs → tvB mm bs = .ok d k → pkL d = bs.take k
  | [], _, _, _, h => by cases h
  | t :: r, d, k, hb, h => by
    have hbr : Bytes r := fun x hx => hb x (List.mem_cons_of_mem _ hx)
    have hb0 := hb t List.mem_cons_self
    have h : tvC mm t r = .ok d k := h
    unfold tvC at h
    split at h
    · cases h
    split at h
    · injection h with h1 h2
      rw [← h1, ← h2]
      have h3 : t = 0 ∨ t = 1 ∨ t = 2 := by omega
      rcases h3 with rfl | rfl | rfl
      · simp [constD, pkL]
      · simp [constD, pkL]
      · simp [constD, pkL]
    split at h
    · cases h
    cases e : rd r with
    | trunc => rw [e] at h; cases h
    | malf => rw [e] at h; cases h
    | num n c =>
      rw [e] at h
      simp only at h
      obtain ⟨hn, he, hl⟩ := rd_can hbr e
      split at h
      · rename_i h3
        unfold chkI at h
        split at h
        · injection h with h1 h2
          rw [← h1, ← h2, h3, show pkL (.int n) = 3 :: enc n.toNat by simp [pkL]; omega, Nat.add_comm, List.take_succ_cons, he]
        · cases h
      split at h
      · rename_i h4
        unfold chkI at h
        split at h
        · injection h with h1 h2
          rw [← h1, ← h2, h4, show pkL (.int (-1 - n)) = 4 :: enc n.toNat by
            rw [show pkL (.int (-1 - n)) = 4 :: enc (-1 - (-1 - n)).toNat by simp [pkL]; omega, show (-1 - (-1 - n)) = n by omega], Nat.add_comm, List.take_succ_cons, he]
        · cases h
      split at h
      · cases h
      split at h
      · rename_i h5
        cases e2 : txF n.toNat (r.drop c) [] with
        | ok cs =>
          rw [e2] at h
          unfold tvT at h
          obtain ⟨ds, e3, e4, e5⟩ := tx_can _ _ _ _ (bytes_drop c hbr) e2
          rw [List.nil_append] at e3
          subst e3
          injection h with h1 h2
          have hx : Str.length ⟨cs.toArray⟩ = n.toNat := by show cs.toArray.size = _; simp [e4]
          rw [← h1, ← h2, h5, show pkL (.str ⟨cs.toArray⟩) = 5 :: (enc (Str.length ⟨cs.toArray⟩) ++ cs.map fun (c : Nat) => (c : Int) - 32) by simp [pkL], hx, he, e5, take_join, show 1 + c + n.toNat = (c + n.toNat) + 1 by omega, List.take_succ_cons]
        | trunc => rw [e2] at h; cases h
        | malf => rw [e2] at h; cases h
      · rename_i h3 h4 h60 h5
        have h6 : t = 6 := by omega
        cases mm with
        | none => cases h
        | some f =>
          obtain ⟨ds, e3, e4, e5, e6⟩ := mem_can (hm f rfl) _ _ _ _ d k (bytes_drop c hbr) h
          rw [List.nil_append] at e3
          rw [e3, h6, show pkL (.tuple ds) = 6 :: (enc ds.length ++ pkA ds) by simp [pkL], e4, he, e6, take_join, show c + (k - (1 + c)) = k - 1 by omega]
          have : k = (k - 1) + 1 := by omega
          rw [this, List.take_succ_cons]
          rfl
theorem tv_can : ∀ (m : Nat) (bs : List Int) (d : PyData) (k : Nat), Bytes bs → tv m bs = .ok d k → pkL d = bs.take k
  | 0 => tvB_can (fun f h => by cases h)
  | m + 1 => tvB_can (fun f h => by injection h with h; subst h; exact tv_can m)
def resL (r : Rd) (i : Nat) : List V := match r with
  | .num n c => [.str "number", .int n, .int ((i + c : Nat) : Int)]
  | .trunc => [.str "truncated"]
  | .malf => [.str "malformed"]
def lresT (r : T3) (i : Nat) : List V := match r with
  | .ok _ => [.str "read", .int (i : Int)]
  | .trunc => [.str "truncated"]
  | .malf => [.str "malformed"]
def lresL (r : TR) (i : Nat) : List V := match r with
  | .ok _ k => [.str "read", .int ((i + k : Nat) : Int)]
  | .trunc => [.str "truncated"]
  | .malf => [.str "malformed"]
def sp_ltn (K : PySem.W.Frag) : Sp := fun vs H Q _ => ∃ (a : Addr) (bs : List Int) (i : Nat), vs = [.ref a, .int (i : Int)] ∧ SqL K H a (bs.map V.int) ∧ Bytes bs ∧ bs.length ≤ 90000 ∧
  ∀ (p : Addr) (H' : Hp), Same H H' → H' p = some (.tup (resL (rd (bs.drop i)) i)) → Q (.ref p) H'
def sp_ltt (K : PySem.W.Frag) : Sp := fun vs H Q _ => ∃ (a : Addr) (bs : List Int) (i n : Nat), vs = [.ref a, .int (i : Int), .int (n : Int)] ∧ SqL K H a (bs.map V.int) ∧ Bytes bs ∧ i ≤ bs.length ∧ bs.length ≤ 90000 ∧ n ≤ 60000 ∧ NoRun bs ∧
  ∀ (p : Addr) (H' : Hp), Same H H' → H' p = some (.tup (lresT (txF n (bs.drop i) []) (i + n))) → Q (.ref p) H'
def sp_limit : Sp := fun vs H Q _ => ∃ (g : Int), vs = [.int g] ∧ Q (.int (2 ^ 3000 - g)) H
def spR (K : PySem.W.Frag) : Nat → Sp
  | 0 => fun _ _ _ _ => False
  | m + 1 => fun vs H Q _ => ∃ (a : Addr) (bs : List Int) (i : Nat), vs = [.ref a, .int (i : Int), .int (m : Int)] ∧ SqL K H a (bs.map V.int) ∧ Bytes bs ∧ i ≤ bs.length ∧ bs.length ≤ 90000 ∧ NoRun bs ∧
    ∀ (p : Addr) (H' : Hp), Same H H' → H' p = some (.tup (lresL (tv m (bs.drop i)) i)) → Q (.ref p) H'
theorem bits_iff {n : Int} (h : 0 ≤ n) : bitsOk n = true ↔ n < 2 ^ 3000 := by
  unfold bitsOk Builtin.Int.intBits
  rw [decide_eq_true_eq]
  by_cases h0 : n = 0
  · subst h0
    exact ⟨fun _ => Int.pow_pos (by decide), fun _ => by decide⟩
  · have hb : (n == 0) = false := by simpa using h0
    rw [hb]
    simp only [Bool.false_eq_true, if_false]
    have := Nat.log2_lt (n := n.natAbs) (k := 3000) (by omega)
    obtain ⟨k, rfl⟩ := Int.eq_ofNat_of_zero_le h
    rw [show ((k : Int)).natAbs = k by omega] at this ⊢
    constructor
    · intro h1
      have h2 := this.mp (by omega)
      exact_mod_cast h2
    · intro h1
      have h2 : k < 2 ^ 3000 := by exact_mod_cast h1
      have := this.mpr h2
      omega
theorem bits_neg {n : Int} (h : 0 ≤ n) : bitsOk (-1 - n) = true ↔ n + 1 < 2 ^ 3000 := by
  rw [← bits_iff (n := n + 1) (by omega)]
  unfold bitsOk Builtin.Int.intBits
  rw [show (-1 - n).natAbs = (n + 1).natAbs by omega, show ((-1 - n) == 0) = ((n + 1) == 0) by rw [Bool.eq_iff_iff]; simp; omega]
/-- the first 2000 of a text that is read, by the law -/
theorem tx_cut : ∀ (n k : Nat) (bs : List Int) (acc : List Nat), k ≤ n → (∀ cs, txF k bs acc = .ok cs → k = n) → (txF k bs acc = .trunc → txF n bs acc = .trunc) ∧ (txF k bs acc = .malf → txF n bs acc = .malf)
  | n, 0, bs, acc, _, h => ⟨(fun z => by cases z), (fun z => by cases z)⟩
  | 0, k + 1, _, _, h, _ => by omega
  | n + 1, k + 1, [], acc, _, _ => ⟨fun _ => rfl, fun z => by cases z⟩
  | n + 1, k + 1, b :: bs, acc, hk, h => by
    have e : ∀ j, txF (j + 1) (b :: bs) acc = if 95 ≤ b ∨ b = 5 then .malf else txF j bs (acc ++ [(b + 32).toNat]) := fun _ => rfl
    rw [e, e]
    rw [e] at h
    split
    · exact ⟨(fun z => by cases z), fun _ => rfl⟩
    · rename_i hx
      refine tx_cut n k bs _ (by omega) fun cs hc => ?_
      have := h cs (by rw [if_neg hx]; exact hc)
      omega
theorem tx_all : ∀ (k : Nat) (bs : List Int) (acc cs : List Nat), txF k bs acc = .ok cs → ∀ j < k, ∀ b, bs[j]? = some b → badB b = false
  | 0, _, _, _, _, j, hj, _, _ => by omega
  | _ + 1, [], _, _, h, _, _, _, _ => by cases h
  | k + 1, b :: bs, acc, cs, h, j, hj, y, hy => by
    unfold txF at h
    split at h
    · cases h
    · rename_i hx
      cases j with
      | zero =>
        simp only [List.getElem?_cons_zero, Option.some.injEq] at hy
        subst hy
        unfold badB
        rw [Bool.or_eq_false_iff, decide_eq_false_iff_not, decide_eq_false_iff_not]
        omega
      | succ j => exact tx_all k bs _ cs h j (by omega) y (by simpa using hy)
/-- where no run is long, 2000 signs tell of all -/
theorem tx_2000 {bs : List Int} {i n : Nat} (h : NoRun bs) (hi : i ≤ bs.length) (hn : 2000 ≤ n) (cs : List Nat) : txF 2000 (bs.drop i) [] ≠ .ok cs := fun e => by
  have hl := txF_len _ _ _ _ e
  rw [List.length_drop] at hl
  obtain ⟨j, hj, b, hb, hbad⟩ := h i (by omega)
  have := tx_all _ _ _ _ e j hj b (by rw [List.getElem?_drop]; exact hb)
  rw [this] at hbad
  cases hbad
section
variable {P : Program} {w : World} {K : PySem.W.Frag} {mg : Str → Option Value} {base : Heap}
theorem ok__law_limit (T : TX K mg) : FnOk P w K mg base CX0 1 T.a__law_limit T.d__law_limit ["negative"] sp_limit := by
  refine T.F__law_limit.ok sc__law_limit (fun vs H Q E h => ?_) (fun cdv A outer s H vs Q E hr h => ?_)
  · obtain ⟨g, rfl, _⟩ := h
    rfl
  · obtain ⟨g, rfl, q⟩ := h
    refine ⟨_, (pss_cons (ps_set (i := 1) sc__law_limit.nd rfl (Or.inl rfl) pe_int)
      (pss_cons (ps_for PassesOwn.never rfl (pi_range1 (by rfl) T.n_range (pa_cons pe_int pa_nil)) (pg_name (i := 2) sc__law_limit.nd rfl (Or.inl rfl))
        (pss_one (ps_set (i := 1) sc__law_limit.nd rfl (Or.inl rfl) (pe_op op_mul (pv 1) (pe_op op_pow pe_int pe_int)))))
      (pss_one (ps_ret (pe_op op_sub (pv 1) (pv 0)))))), ?_⟩
    refine ⟨60, rfl, by decide, by decide, for_range (lo := 0) (n := 60) (fun i σ G => H = G ∧ ∃ x2, σ = [some (.int g), some (.int (2 ^ (50 * i))), x2]) ⟨rfl, none, rfl⟩ ?_ ?_⟩
    · rintro i σ _ hi ⟨rfl, x2, rfl⟩
      refine ⟨_, rfl, _, _, rfl, rfl, ⟨by decide, by decide, by decide⟩, _, _, rfl, rfl, .inr ⟨by decide, by decide⟩, rfl, some (.int (0 + (i : Int))), ?_⟩
      have : (2 : Int) ^ (50 * i) * 2 ^ 50 = 2 ^ (50 * (i + 1)) := by rw [← Int.pow_add]; rfl
      exact congrArg (fun z => [some (V.int g), some (V.int z), some (V.int (0 + (i : Int)))]) this
    · rintro σ _ ⟨rfl, x2, rfl⟩
      exact ⟨_, rfl, _, rfl, _, _, rfl, rfl, q⟩
theorem ok__law_take_text (T : TX K mg) : FnOk P w K mg base CX0 1 T.a__law_take_text T.d__law_take_text ["row", "index", "length"] (sp_ltt K) := by
  refine T.F__law_take_text.ok sc__law_take_text (fun vs H Q E h => ?_) (fun cdv A outer s H vs Q E hr h => ?_)
  · obtain ⟨a, bs, i, n, rfl, _⟩ := h
    rfl
  · obtain ⟨a, bs, i, n, rfl, hS, hb, hi, hlen, hn, hno, q⟩ := h
    refine ⟨_, (pss_cons (ps_for PassesOwn.never rfl (pi_range2 (by rfl) T.n_range (pa_cons (pv 1) (pa_cons (pe_op op_add (pv 1) (pe_callB (call_min2 rfl) (by rfl) T.n_min (by decide +kernel) (pa_cons (pv 2) (pa_cons pe_int pa_nil)))) pa_nil))) (pg_name (i := 3) sc__law_take_text.nd rfl (Or.inl rfl))
        (pss_cons (ps_if (pt_cmpR op_ge (pv 3) (pe_callB call_len_seq (by rfl) T.n_len PySem.boot_len (pa_cons (pv 0) pa_nil)) (nomark _)) (pss_one (ps_ret (pe_tup (pa_cons pe_str pa_nil)))) pss_nil)
        (pss_one (ps_if (PW.pt (pw_or (pt_cmpR op_gt (pe_ix ix_list (pv 0) (pv 3) (fun _ _ => rfl)) pe_int (nomark _)) (pw_or1 (pt_cmpR op_eq (pe_ix ix_list (pv 0) (pv 3) (fun _ _ => rfl)) pe_int (nomark _))))) (pss_one (ps_ret (pe_tup (pa_cons pe_str pa_nil)))) pss_nil))))
      (pss_cons (ps_if (pt_cmpR op_gt (pe_op op_add (pv 1) (pv 2)) (pe_callB call_len_seq (by rfl) T.n_len PySem.boot_len (pa_cons (pv 0) pa_nil)) (nomark _)) (pss_one (ps_ret (pe_tup (pa_cons pe_str pa_nil)))) pss_nil)
      (pss_one (ps_ret (pe_tup (pa_cons pe_str (pa_cons (pe_op op_add (pv 1) (pv 2)) pa_nil))))))), ?_⟩
    have hml : (bs.map V.int).length = bs.length := List.length_map _
    obtain ⟨k, hk, hkn⟩ : ∃ k : Nat, (if 2000 < (n : Int) then (2000 : Int) else (n : Int)) = (k : Int) ∧ k = min n 2000 := ⟨min n 2000, by split <;> omega, rfl⟩
    have hcut := tx_cut n k (bs.drop i) [] (by omega) fun cs hc => by
      by_cases h : n ≤ 2000
      · omega
      · have hk2 : k = 2000 := by omega
        rw [hk2] at hc
        exact absurd hc (tx_2000 hno hi (n := n) (by omega) cs)
    have trunc : txF n (bs.drop i) [] = .trunc → ∀ (D : Ends) (σ : L2.St), D.rt = Q → tRet (tTup (tCons (tC (.str "truncated")) tNil)) D σ H := fun e D σ hD => ⟨(by show 1 ≤ sizeLine; decide), fun p hp => by rw [hD]; exact q p _ (same_upd hp) (by rw [upd_same, e]; rfl)⟩
    have malf : txF n (bs.drop i) [] = .malf → ∀ (D : Ends) (σ : L2.St), D.rt = Q → tRet (tTup (tCons (tC (.str "malformed")) tNil)) D σ H := fun e D σ hD => ⟨(by show 1 ≤ sizeLine; decide), fun p hp => by rw [hD]; exact q p _ (same_upd hp) (by rw [upd_same, e]; rfl)⟩
    refine ⟨_, rfl, _, rfl, _, rfl, _, _, rfl, _, _, rfl, rfl, (i : Int), ((i + k : Nat) : Int), ?_, ⟨by omega, by omega, by omega, by omega⟩, ?_⟩
    · have e : (i : Int) + (if 2000 < (n : Int) then (2000 : Int) else (n : Int)) = ((i + k : Nat) : Int) := by rw [hk]; omega
      exact congrArg (fun z => [V.int (i : Int), V.int z]) e
    refine for_range (lo := (i : Int)) (n := _) (fun t σ G => H = G ∧ ∃ (acc : List Nat) (x3 : Option V), σ = [some (.ref a), some (.int (i : Int)), some (.int (n : Int)), x3] ∧ txF k (bs.drop i) [] = txF (k - t) (bs.drop (i + t)) acc) ⟨rfl, [], none, rfl, rfl⟩ ?_ ?_
    · rintro t σ _ ht ⟨rfl, acc, x3, rfl, htx⟩
      have ht' : t < k := by omega
      rw [show k - t = (k - t - 1) + 1 by omega] at htx
      refine ⟨_, rfl, _, rfl, a, _, rfl, .inl hS, _, _, rfl, rfl, _, rfl, ifd (fun hc => ?_) (fun hc => ?_)⟩
      · rw [hml] at hc
        have h2 : bs.drop (i + t) = [] := List.drop_of_length_le (by omega)
        rw [h2] at htx
        exact trunc (hcut.1 htx) _ _ rfl
      · rw [hml] at hc
        have hlt : i + t < bs.length := by omega
        have hg : bs[i + t]? = some bs[i + t] := List.getElem?_eq_getElem hlt
        have hdr : bs.drop (i + t) = bs[i + t] :: bs.drop (i + (t + 1)) := List.drop_eq_getElem_cons hlt
        have ga : atI (bs.map V.int) ((i : Int) + (t : Int)) = some (.int bs[i + t]) := by
          have := at_map (f := V.int) hg
          rwa [Int.natCast_add] at this
        rw [hdr] at htx
        generalize bs[i + t] = b at hg htx ga hdr
        have hst : txF ((k - t - 1) + 1) (b :: bs.drop (i + (t + 1))) acc = if 95 ≤ b ∨ b = 5 then .malf else txF (k - t - 1) (bs.drop (i + (t + 1))) (acc ++ [(b + 32).toNat]) := rfl
        rw [hst] at htx
        dsimp only [gName, tNext, tSeq, tIfS]
        refine or_use (x := decide (94 < b)) (y := decide (V.int b = V.int 5)) (fun R r => ⟨_, rfl, _, rfl, a, _, _, .int b, rfl, rfl, hS, ga, _, _, rfl, rfl, _, rfl, r⟩) (fun R r => ⟨_, rfl, _, rfl, a, _, _, .int b, rfl, rfl, hS, ga, rfl, _, rfl, r⟩) ?_
        refine ifb2 (fun hx => ?_) (fun hx => ?_)
        · rw [Bool.or_eq_true, decide_eq_true_eq, decide_eq_true_eq] at hx
          rw [if_pos (hx.elim (fun z => .inl (by omega)) fun z => .inr (V.int.inj z))] at htx
          exact malf (hcut.2 htx) _ _ rfl
        · rw [Bool.or_eq_false_iff, decide_eq_false_iff_not, decide_eq_false_iff_not] at hx
          rw [if_neg (fun z => z.elim (fun y => hx.1 (by omega)) fun y => hx.2 (congrArg V.int y))] at htx
          exact ⟨rfl, _, some (.int ((i : Int) + (t : Int))), rfl, by rw [htx, show k - (t + 1) = k - t - 1 by omega]⟩
    · rintro σ _ ⟨rfl, acc, x3, rfl, htx⟩
      have hkk : (((i + k : Nat) : Int) - (i : Int)).toNat = k := by omega
      rw [hkk, Nat.sub_self] at htx
      have hok : txF k (bs.drop i) [] = .ok acc := htx
      have hkn2 : k = n := by
        by_cases h : n ≤ 2000
        · omega
        · have hk2 : k = 2000 := by omega
          rw [hk2] at hok
          exact absurd hok (tx_2000 hno hi (n := n) (by omega) acc)
      subst hkn2
      have hl := txF_len _ _ _ _ hok
      rw [List.length_drop] at hl
      refine ⟨_, rfl, _, rfl, _, _, rfl, rfl, _, rfl, a, _, rfl, .inl hS, _, _, rfl, rfl, _, rfl, ifd (fun hc => ?_) (fun hc => ?_)⟩
      · rw [hml] at hc
        omega
      · refine ⟨_, rfl, _, rfl, _, _, rfl, rfl, (by show 2 ≤ sizeLine; decide), fun p hp => q p _ (same_upd hp) ?_⟩
        rw [upd_same, hok]
        rfl
theorem ok__law_take_number (T : TX K mg) : FnOk P w K mg base CX0 1 T.a__law_take_number T.d__law_take_number ["row", "index"] (sp_ltn K) := by
  refine T.F__law_take_number.ok sc__law_take_number (fun vs H Q E h => ?_) (fun cdv A outer s H vs Q E hr h => ?_)
  · obtain ⟨a, bs, i, rfl, _⟩ := h
    rfl
  · obtain ⟨a, bs, i, rfl, hS, hb, hlen, q⟩ := h
    refine ⟨_, (pss_cons (ps_set (i := 2) sc__law_take_number.nd rfl (Or.inl rfl) pe_int)
      (pss_cons (ps_set (i := 3) sc__law_take_number.nd rfl (Or.inl rfl) pe_int)
      (pss_cons (ps_for PassesOwn.never rfl (pi_range1 (by rfl) T.n_range (pa_cons pe_int pa_nil)) (pg_name (i := 4) sc__law_take_number.nd rfl (Or.inl rfl))
        (pss_cons (ps_if (pt_cmpR op_ge (pe_op op_add (pv 1) (pv 4)) (pe_callB call_len_seq (by rfl) T.n_len PySem.boot_len (pa_cons (pv 0) pa_nil)) (nomark _)) (pss_one (ps_ret (pe_tup (pa_cons pe_str pa_nil)))) pss_nil)
        (pss_cons (ps_set (i := 5) sc__law_take_number.nd rfl (Or.inl rfl) (pe_ix ix_list (pv 0) (pe_op op_add (pv 1) (pv 4)) (fun _ _ => rfl)))
        (pss_cons (ps_if (pt_cmpR op_lt (pv 5) pe_int (nomark _)) (pss_cons (ps_if (PW.pt (pw_and (pt_cmpR op_eq (pv 5) pe_int (nomark _)) (pw_and1 (pt_cmpR op_gt (pv 4) pe_int (nomark _))))) (pss_one (ps_ret (pe_tup (pa_cons pe_str pa_nil)))) pss_nil)
          (pss_one (ps_ret (pe_tup (pa_cons pe_str (pa_cons (pe_op op_add (pv 2) (pe_op op_mul (pv 5) (pv 3))) (pa_cons (pe_op op_add (pe_op op_add (pv 1) (pv 4)) pe_int) pa_nil))))))) pss_nil)
        (pss_cons (ps_set (i := 2) sc__law_take_number.nd rfl (Or.inl rfl) (pe_op op_add (pv 2) (pe_op op_mul (pe_op op_sub (pv 5) pe_int) (pv 3))))
        (pss_one (ps_set (i := 3) sc__law_take_number.nd rfl (Or.inl rfl) (pe_op op_mul (pv 3) pe_int))))))))
      (pss_one (ps_ret (pe_tup (pa_cons pe_str pa_nil))))))), ?_⟩
    have hml : (bs.map V.int).length = bs.length := List.length_map _
    refine ⟨500, rfl, by decide, by decide, for_range (lo := 0) (n := 500) (fun t σ G => H = G ∧ ∃ (acc : Int) (x4 x5 : Option V), σ = [some (.ref a), some (.int (i : Int)), some (.int acc), some (.int (128 ^ t)), x4, x5] ∧ rd (bs.drop i) = rdGo (500 - t) t acc (bs.drop (i + t)))
      ⟨rfl, 0, none, none, rfl, rfl⟩ ?_ ?_⟩
    · rintro t σ _ ht ⟨rfl, acc, x4, x5, rfl, hrd⟩
      refine ⟨_, rfl, _, rfl, _, _, rfl, rfl, _, rfl, a, _, rfl, .inl hS, _, _, rfl, rfl, _, rfl, ifd (fun hc => ?_) (fun hc => ?_)⟩
      · rw [hml] at hc
        refine ⟨(by show 1 ≤ sizeLine; decide), fun p hp => q p _ (same_upd hp) ?_⟩
        have h2 : bs.drop (i + t) = [] := List.drop_of_length_le (by omega)
        rw [h2, show 500 - t = (499 - t) + 1 by omega] at hrd
        have e : rd (bs.drop i) = .trunc := hrd
        rw [e]
        rw [upd_same]; rfl
      · rw [hml] at hc
        have hlt : i + t < bs.length := by omega
        have hg : bs[i + t]? = some bs[i + t] := List.getElem?_eq_getElem hlt
        have hbb := hb _ (List.getElem_mem hlt)
        have hdr : bs.drop (i + t) = bs[i + t] :: bs.drop (i + (t + 1)) := List.drop_eq_getElem_cons hlt
        have ga : atI (bs.map V.int) ((i : Int) + (0 + (t : Int))) = some (.int bs[i + t]) := by
          have := at_map (f := V.int) hg
          rwa [show (((i + t : Nat)) : Int) = (i : Int) + (0 + (t : Int)) by omega] at this
        rw [hdr, show 500 - t = (499 - t) + 1 by omega] at hrd
        generalize bs[i + t] = b at hg hbb hrd ga hdr
        refine ⟨_, rfl, _, rfl, _, rfl, _, _, rfl, rfl, a, _, _, .int b, rfl, rfl, hS, ga, ?_⟩
        refine ⟨_, rfl, _, _, rfl, rfl, _, rfl, ifd (fun hc => ?_) (fun hc => ?_)⟩
        · have hgo : rdGo ((499 - t) + 1) t acc (b :: bs.drop (i + (t + 1))) = if b = 0 ∧ 0 < t then .malf else .num (acc + b * 128 ^ t) (t + 1) := by
            show (if b < 128 then _ else _) = _
            rw [if_pos hc]
          rw [hgo] at hrd
          have num : ¬ (b = 0 ∧ 0 < t) → ∀ σ' : L2.St, σ' = [some (.ref a), some (.int (i : Int)), some (.int acc), some (.int (128 ^ t)), some (.int (0 + (t : Int))), some (.int b)] → tRet (tTup (tCons (tC (.str "number")) (tCons (tOp (rI0 fun i j => V.int (i + j)) (tVar 2) (tOp (rI CMul fun i j => V.int (i * j)) (tVar 5) (tVar 3))) (tCons (tOp (rI0 fun i j => V.int (i + j)) (tOp (rI0 fun i j => V.int (i + j)) (tVar 1) (tVar 4)) (tC (.int 1))) tNil)))) { nx := fun x H' => Q .non H', rt := Q } σ' H := by
            rintro hn _ rfl
            refine ⟨_, rfl, _, rfl, _, rfl, _, _, rfl, rfl, .inl ⟨by omega, by omega⟩, _, _, rfl, rfl, _, rfl, _, rfl, _, _, rfl, rfl, _, _, rfl, rfl, (by show 3 ≤ sizeLine; decide), fun p hp => q p _ (same_upd hp) ?_⟩
            rw [if_neg hn] at hrd
            rw [hrd]
            have : (i : Int) + (0 + (t : Int)) + 1 = ((i + (t + 1) : Nat) : Int) := by omega
            rw [upd_same]
            exact congrArg (fun z => some (HO.tup [V.str "number", V.int (acc + b * 128 ^ t), V.int z])) this
          refine ⟨_, rfl, rfl, _, rfl, ifd (fun hz => ?_) (fun hz => ?_)⟩
          · have hz' : b = 0 := V.int.inj hz
            refine ⟨_, rfl, _, _, rfl, rfl, _, rfl, ifd (fun hq => ?_) (fun hq => ?_)⟩
            · rw [if_pos ⟨hz', by omega⟩] at hrd
              refine ⟨(by show 1 ≤ sizeLine; decide), fun p hp => q p _ (same_upd hp) ?_⟩
              rw [hrd]
              rw [upd_same]; rfl
            · exact num (by omega) _ rfl
          · exact num (fun z => hz (by rw [z.1])) _ rfl
        · have hgo : rdGo ((499 - t) + 1) t acc (b :: bs.drop (i + (t + 1))) = rdGo (499 - t) (t + 1) (acc + (b - 128) * 128 ^ t) (bs.drop (i + (t + 1))) := by
            show (if b < 128 then _ else _) = _
            rw [if_neg hc]
          rw [hgo] at hrd
          refine ⟨_, rfl, _, rfl, _, _, rfl, rfl, _, rfl, _, _, rfl, rfl, .inl ⟨by omega, by omega⟩, _, _, rfl, rfl, ?_⟩
          refine ⟨_, rfl, _, _, rfl, rfl, .inr ⟨by decide, by decide⟩, ?_⟩
          exact ⟨rfl, _, _, _, rfl, by rw [show 500 - (t + 1) = 499 - t by omega]; exact hrd⟩
    · rintro σ _ ⟨rfl, acc, x4, x5, rfl, hrd⟩
      refine ⟨(by show 1 ≤ sizeLine; decide), fun p hp => q p _ (same_upd hp) ?_⟩
      have e : rd (bs.drop i) = .malf := hrd
      rw [e]
      rw [upd_same]; rfl
end
theorem lres_shift (r : TR) (i j : Nat) : lresL (r.shift j) i = lresL r (i + j) := by
  cases r with
  | ok d k => show [V.str "read", V.int ((i + (k + j) : Nat) : Int)] = [V.str "read", V.int ((i + j + k : Nat) : Int)]; rw [show i + (k + j) = i + j + k by omega]
  | trunc => rfl
  | malf => rfl
section
variable {P : Program} {w : World} {K : PySem.W.Frag} {mg : Str → Option Value} {base : Heap}
theorem okn__law_read (T : TX K mg) : ∀ n : Nat, FnOk P w K mg base CX0 (n + 2) T.a__law_read T.d__law_read ["row", "index", "depth"] (spR K n) := by
  intro n
  induction n with
  | zero => exact T.F__law_read.ok sc__law_read (fun vs H Q E h => h.elim) (fun cdv A outer s H vs Q E hr h => h.elim)
  | succ m ih__law_read =>
    refine T.F__law_read.ok sc__law_read (fun vs H Q E h => ?_) (fun cdv A outer s H vs Q E hr h => ?_)
    · obtain ⟨a, bs, i, rfl, _⟩ := h
      rfl
    · obtain ⟨a, bs, i, rfl, hS, hb, hi, hlen, hno, q⟩ := h
      refine ⟨_, (pss_cons (ps_if (pt_cmpR op_ge (pv 1) (pe_callB call_len_seq (by rfl) T.n_len PySem.boot_len (pa_cons (pv 0) pa_nil)) (nomark _)) (pss_one (ps_ret (pe_tup (pa_cons pe_str pa_nil)))) pss_nil)
      (pss_cons (ps_set (i := 3) sc__law_read.nd rfl (Or.inl rfl) (pe_ix ix_list (pv 0) (pv 1) (fun _ _ => rfl)))
      (pss_cons (ps_if (pt_cmpR op_le (pv 3) pe_int (nomark _)) (pss_one (ps_ret (pe_tup (pa_cons pe_str (pa_cons (pe_op op_add (pv 1) pe_int) pa_nil))))) pss_nil)
      (pss_cons (ps_if (PW.pt (pw_or (pt_cmpR op_gt (pv 3) pe_int (nomark _)) (pw_or1 (PW.pt (pw_and (pt_cmpR op_eq (pv 3) pe_int (nomark _)) (pw_and1 (pt_cmpR op_eq (pv 2) pe_int (nomark _)))))))) (pss_one (ps_ret (pe_tup (pa_cons pe_str pa_nil)))) pss_nil)
      (pss_cons (ps_set (i := 4) sc__law_read.nd rfl (Or.inl rfl) (pe_call (ok__law_take_number T) (hr.mono (by omega)) (by rfl) T.g__law_take_number T.F__law_take_number.kp T.b__law_take_number .nil pass0 (pa_cons (pv 0) (pa_cons (pe_op op_add (pv 1) pe_int) pa_nil))))
      (pss_cons (ps_if (pt_cmpR op_ne (pe_ix ix_tup (pv 4) pe_int (fun _ _ => rfl)) pe_str (nomark _)) (pss_one (ps_ret (pv 4))) pss_nil)
      (pss_cons (ps_if (pt_cmpR op_le (pv 3) pe_int (nomark _)) (pss_cons (ps_if (pt_cmpR op_ge (pe_ix ix_tup (pv 4) pe_int (fun _ _ => rfl)) (pe_call (ok__law_limit T) (hr.mono (by omega)) (by rfl) T.g__law_limit T.F__law_limit.kp T.b__law_limit .nil pass0 (pa_cons (pe_op op_sub (pv 3) pe_int) pa_nil)) (nomark _)) (pss_one (ps_ret (pe_tup (pa_cons pe_str pa_nil)))) pss_nil)
        (pss_one (ps_ret (pe_tup (pa_cons pe_str (pa_cons (pe_ix ix_tup (pv 4) pe_int (fun _ _ => rfl)) pa_nil)))))) pss_nil)
      (pss_cons (ps_if (pt_cmpR op_gt (pe_ix ix_tup (pv 4) pe_int (fun _ _ => rfl)) pe_int (nomark _)) (pss_one (ps_ret (pe_tup (pa_cons pe_str pa_nil)))) pss_nil)
      (pss_cons (ps_if (pt_cmpR op_eq (pv 3) pe_int (nomark _)) (pss_one (ps_ret (pe_call (ok__law_take_text T) (hr.mono (by omega)) (by rfl) T.g__law_take_text T.F__law_take_text.kp T.b__law_take_text .nil pass0 (pa_cons (pv 0) (pa_cons (pe_ix ix_tup (pv 4) pe_int (fun _ _ => rfl)) (pa_cons (pe_ix ix_tup (pv 4) pe_int (fun _ _ => rfl)) pa_nil)))))) pss_nil)
      (pss_cons (ps_set (i := 5) sc__law_read.nd rfl (Or.inl rfl) (pe_ix ix_tup (pv 4) pe_int (fun _ _ => rfl)))
      (pss_cons (ps_for PassesOwn.never rfl (pi_range1 (by rfl) T.n_range (pa_cons (pe_ix ix_tup (pv 4) pe_int (fun _ _ => rfl)) pa_nil)) (pg_name (i := 6) sc__law_read.nd rfl (Or.inl rfl))
        (pss_cons (ps_set (i := 7) sc__law_read.nd rfl (Or.inl rfl) (pe_call ih__law_read (hr.mono (by omega)) (by rfl) T.g__law_read T.F__law_read.kp T.b__law_read .nil pass0 (pa_cons (pv 0) (pa_cons (pv 5) (pa_cons (pe_op op_sub (pv 2) pe_int) pa_nil)))))
        (pss_cons (ps_if (pt_cmpR op_ne (pe_ix ix_tup (pv 7) pe_int (fun _ _ => rfl)) pe_str (nomark _)) (pss_one (ps_ret (pv 7))) pss_nil)
        (pss_one (ps_set (i := 5) sc__law_read.nd rfl (Or.inl rfl) (pe_ix ix_tup (pv 7) pe_int (fun _ _ => rfl)))))))
      (pss_one (ps_ret (pe_tup (pa_cons pe_str (pa_cons (pv 5) pa_nil)))))))))))))))), ?_⟩
      have hml : (bs.map V.int).length = bs.length := List.length_map _
      obtain ⟨mm, hmm⟩ : ∃ mm, mm = (match m with | 0 => none | j + 1 => some (tv j)) := ⟨_, rfl⟩
      have htv : ∀ l, tv m l = tvB mm l := fun l => by
        cases m with
        | zero => rw [hmm]; rfl
        | succ j => rw [hmm]; rfl
      rw [htv] at q
      have ret : ∀ (x : Str) (D : Ends) (σ : L2.St) (G : Hp), D.rt = Q → Same H G → (∀ (p : Addr) (H' : Hp), Same H H' → H' p = some (.tup [.str x]) → Q (.ref p) H') → tRet (tTup (tCons (tC (.str x)) tNil)) D σ G := fun x D σ G hD sG q => ⟨(by show 1 ≤ sizeLine; decide), fun p hp => by rw [hD]; exact q p _ (sG.trans (same_upd hp)) upd_same⟩
      refine ⟨_, rfl, _, rfl, a, _, rfl, .inl hS, _, _, rfl, rfl, _, rfl, ifd (fun hc => ?_) (fun hc => ?_)⟩
      · rw [hml] at hc
        rw [List.drop_of_length_le (by omega)] at q
        exact ret _ _ _ _ rfl (Same.refl _) q
      rw [hml] at hc
      have hlt : i < bs.length := by omega
      have hg : bs[i]? = some bs[i] := List.getElem?_eq_getElem hlt
      have hbb := hb _ (List.getElem_mem hlt)
      have hdr : bs.drop i = bs[i] :: bs.drop (i + 1) := List.drop_eq_getElem_cons hlt
      have ga : atI (bs.map V.int) (i : Int) = some (.int bs[i]) := at_map (f := V.int) hg
      rw [hdr] at q
      generalize bs[i] = t at hg hbb q ga hdr
      have q : ∀ (p : Addr) (H' : Hp), Same H H' → H' p = some (.tup (lresL (tvC mm t (bs.drop (i + 1))) i)) → Q (.ref p) H' := q
      unfold tvC at q
      refine ⟨_, rfl, _, rfl, a, _, _, .int t, rfl, rfl, hS, ga, ?_⟩
      refine ⟨_, rfl, _, _, rfl, rfl, _, rfl, ifd (fun h2 => ?_) (fun h2 => ?_)⟩
      · rw [if_neg (by omega), if_pos h2] at q
        refine ⟨_, rfl, _, _, rfl, rfl, (by show 2 ≤ sizeLine; decide), fun p hp => q p _ (same_upd hp) ?_⟩
        rw [upd_same]; rfl
      dsimp only [gName, tNext, tSeq, tIfS]
      refine or_use (x := decide (t > 6)) (y := decide (V.int t = V.int 6) && decide (V.int (m : Int) = V.int 0)) (fun R r => ⟨_, rfl, _, _, rfl, rfl, _, rfl, r⟩) (fun R r => and_use (x := decide (V.int t = V.int 6)) (y := decide (V.int (m : Int) = V.int 0)) (fun R r => ⟨_, rfl, rfl, _, rfl, r⟩) (fun R r => ⟨_, rfl, rfl, _, rfl, r⟩) r) ?_
      have hmn : mm.isNone = decide (m = 0) := by
        cases m with
        | zero => rw [hmm]; rfl
        | succ j => rw [hmm]; simp
      refine ifb2 (fun hx => ?_) (fun hx => ?_)
      · rw [Bool.or_eq_true, decide_eq_true_eq, Bool.and_eq_true, decide_eq_true_eq, decide_eq_true_eq] at hx
        by_cases h6 : 6 < t
        · rw [if_pos h6] at q
          exact ret _ _ _ _ rfl (Same.refl _) q
        · rcases hx with z | ⟨z, y⟩
          · exact absurd z h6
          · rw [if_neg h6, if_neg (by omega), if_pos ⟨V.int.inj z, by rw [hmn]; exact decide_eq_true (by have := V.int.inj y; omega)⟩] at q
            exact ret _ _ _ _ rfl (Same.refl _) q
      rw [Bool.or_eq_false_iff, decide_eq_false_iff_not, Bool.and_eq_false_iff, decide_eq_false_iff_not, decide_eq_false_iff_not] at hx
      obtain ⟨h6, hx⟩ := hx
      have hno6 : ¬ (t = 6 ∧ mm.isNone = true) := fun z => by
        rw [hmn, decide_eq_true_eq] at z
        exact hx.elim (fun y => y (congrArg V.int z.1)) fun y => y (congrArg V.int (by omega))
      rw [if_neg (by omega), if_neg (by omega), if_neg hno6] at q
      have hbr := bytes_drop (i + 1) hb
      refine ⟨_, rfl, _, rfl, _, _, rfl, rfl, a, bs, i + 1, rfl, hS, hb, hlen, fun p G s1 ep => ?_⟩
      cases e : rd (bs.drop (i + 1)) with
      | trunc =>
        rw [e] at q ep
        exact ⟨_, rfl, p, _, 0, .str "truncated", rfl, rfl, sqt ep, rfl, rfl, _, rfl, ifbt (by decide +kernel) ⟨_, rfl, q p G s1 ep⟩⟩
      | malf =>
        rw [e] at q ep
        exact ⟨_, rfl, p, _, 0, .str "malformed", rfl, rfl, sqt ep, rfl, rfl, _, rfl, ifbt (by decide +kernel) ⟨_, rfl, q p G s1 ep⟩⟩
      | num n c =>
        rw [e] at q ep
        have hn := rdGo_nn 500 0 0 _ n c hbr (by decide) e
        have hc2 := (rdGo_len 500 0 0 _ n c e).1
        rw [List.length_drop] at hc2
        obtain ⟨n, rfl⟩ := Int.eq_ofNat_of_zero_le hn
        have ep : G p = some (.tup [.str "number", .int (n : Int), .int ((i + 1 + c : Nat) : Int)]) := ep
        dsimp only at q
        rw [Int.toNat_natCast] at q
        have hS1 := s1.seq hS
        have hadd : ((i + 1 + c : Nat) : Int) = ((i + (1 + c) : Nat) : Int) := by omega
        refine ⟨_, rfl, p, _, 0, .str "number", rfl, rfl, sqt ep, rfl, rfl, _, rfl, ifbf (by decide +kernel) ?_⟩
        refine ⟨_, rfl, _, _, rfl, rfl, _, rfl, ifd (fun h4 => ?_) (fun h4 => ?_)⟩
        · refine ⟨_, rfl, p, _, 1, .int (n : Int), rfl, rfl, sqt ep, rfl, _, rfl, _, _, rfl, rfl, t - 3, rfl, _, _, rfl, rfl, _, rfl, ?_⟩
          have key : (if t = 3 then chkI (n : Int) (1 + c) else if t = 4 then chkI (-1 - (n : Int)) (1 + c) else if 60000 < (n : Int) then .malf else if t = 5 then tvT (txF n ((bs.drop (i + 1)).drop c) []) (1 + c + n) else tvM mm n ((bs.drop (i + 1)).drop c) (1 + c)) = if (2 : Int) ^ 3000 - (t - 3) ≤ (n : Int) then .malf else (if t = 3 then TR.ok (.int n) (1 + c) else TR.ok (.int (-1 - (n : Int))) (1 + c)) := by
            have h34 : t = 3 ∨ t = 4 := by omega
            rcases h34 with rfl | rfl
            · rw [if_pos rfl]
              unfold chkI
              by_cases hb3 : bitsOk (n : Int) = true
              · rw [if_pos hb3, if_neg (by have := (bits_iff (Int.natCast_nonneg n)).mp hb3; omega), if_pos rfl]
              · rw [if_neg hb3, if_pos (by have h8 : (2 : Int) ^ 3000 ≤ (n : Int) := Int.not_lt.mp fun h => hb3 ((bits_iff (Int.natCast_nonneg n)).mpr h); omega)]
            · rw [if_neg (by decide), if_pos rfl]
              unfold chkI
              by_cases hb3 : bitsOk (-1 - (n : Int)) = true
              · rw [if_pos hb3, if_neg (by have := (bits_neg (Int.natCast_nonneg n)).mp hb3; omega), if_neg (by decide)]
              · rw [if_neg hb3, if_pos (by have h8 : (2 : Int) ^ 3000 ≤ (n : Int) + 1 := Int.not_lt.mp fun h => hb3 ((bits_neg (Int.natCast_nonneg n)).mpr h); omega)]
          rw [key] at q
          refine ifd (fun hl => ?_) (fun hl => ?_)
          · rw [if_pos hl] at q
            exact ret _ _ _ _ rfl s1 q
          · rw [if_neg hl] at q
            refine ⟨_, rfl, p, _, 2, .int _, rfl, rfl, sqt ep, rfl, (by show 2 ≤ sizeLine; decide), fun p2 hp2 => q p2 _ (s1.trans (same_upd hp2)) ?_⟩
            rw [upd_same, hadd]
            split <;> rfl
        rw [if_neg (by omega), if_neg (by omega)] at q
        refine ⟨_, rfl, p, _, 1, .int (n : Int), rfl, rfl, sqt ep, rfl, _, _, rfl, rfl, _, rfl, ifd (fun h60 => ?_) (fun h60 => ?_)⟩
        · rw [if_pos h60] at q
          exact ret _ _ _ _ rfl s1 q
        rw [if_neg h60] at q
        refine ⟨_, rfl, rfl, _, rfl, ifd (fun h5 => ?_) (fun h5 => ?_)⟩
        · rw [if_pos (V.int.inj h5), List.drop_drop] at q
          refine ⟨_, rfl, _, rfl, p, _, 2, .int _, rfl, rfl, sqt ep, rfl, _, rfl, p, _, 1, .int (n : Int), rfl, rfl, sqt ep, rfl, a, bs, i + 1 + c, n, rfl, hS1, hb, by omega, hlen, by omega, hno, fun p2 G2 s2 ep2 => q p2 G2 (s1.trans s2) ?_⟩
          rw [ep2]
          cases txF n (bs.drop (i + 1 + c)) [] with
          | ok cs =>
            show some (HO.tup [V.str "read", V.int ((i + 1 + c + n : Nat) : Int)]) = some (HO.tup [V.str "read", V.int ((i + (1 + c + n) : Nat) : Int)])
            rw [show i + 1 + c + n = i + (1 + c + n) by omega]
          | trunc => rfl
          | malf => rfl
        rw [if_neg (fun z => h5 (congrArg V.int z)), List.drop_drop] at q
        have ht6 : t = 6 := by
          have h10 : t ≠ 5 := fun z => h5 (congrArg V.int z)
          omega
        cases m with
        | zero => exact absurd ⟨ht6, by rw [hmm]; rfl⟩ hno6
        | succ j =>
        rw [hmm] at q
        unfold tvM at q
        dsimp only at q
        rw [show (1 + c : Nat) = 0 + (1 + c) by omega, memF_shift] at q
        refine ⟨_, rfl, p, _, 2, .int _, rfl, rfl, sqt ep, rfl, ?_⟩
        refine ⟨_, rfl, p, _, 1, .int (n : Int), rfl, rfl, sqt ep, rfl, _, rfl, by omega, by omega, ?_⟩
        refine for_range (lo := 0) (n := _) (fun u σ G2 => ∃ (acc : List PyData) (k : Nat) (x6 x7 : Option V), σ = [some (.ref a), some (.int (i : Int)), some (.int ((j + 1 : Nat) : Int)), some (.int t), some (.ref p), some (.int ((i + 1 + c + k : Nat) : Int)), x6, x7] ∧ Same G G2 ∧ i + 1 + c + k ≤ bs.length ∧ memF (tv j) n (bs.drop (i + 1 + c)) [] 0 = memF (tv j) (n - u) (bs.drop (i + 1 + c + k)) acc k) ⟨[], 0, none, none, rfl, Same.refl _, by omega, rfl⟩ ?_ ?_
        · rintro u σ G2 hu ⟨acc, k, x6, x7, rfl, s2, hk, hmem⟩
          have hu' : u < n := by omega
          rw [show n - u = (n - u - 1) + 1 by omega] at hmem
          have hst : memF (tv j) ((n - u - 1) + 1) (bs.drop (i + 1 + c + k)) acc k = match tv j (bs.drop (i + 1 + c + k)) with
            | .ok d k2 => memF (tv j) (n - u - 1) ((bs.drop (i + 1 + c + k)).drop k2) (acc ++ [d]) (k + k2)
            | .trunc => .trunc
            | .malf => .malf := rfl
          rw [hst] at hmem
          refine ⟨_, rfl, _, rfl, _, rfl, _, _, rfl, rfl, a, bs, i + 1 + c + k, ?_, s2.seq hS1, hb, hk, hlen, hno, fun p3 G3 s3 ep3 => ?_⟩
          · have : ((j + 1 : Nat) : Int) - 1 = (j : Int) := by omega
            exact congrArg (fun z => [V.ref a, V.int ((i + 1 + c + k : Nat) : Int), V.int z]) this
          cases e3 : tv j (bs.drop (i + 1 + c + k)) with
          | trunc =>
            rw [e3] at hmem ep3
            rw [hmem] at q
            exact ⟨_, rfl, p3, _, 0, .str "truncated", rfl, rfl, sqt ep3, rfl, rfl, _, rfl, ifbt (by decide +kernel) ⟨_, rfl, q p3 G3 ((s1.trans s2).trans s3) ep3⟩⟩
          | malf =>
            rw [e3] at hmem ep3
            rw [hmem] at q
            exact ⟨_, rfl, p3, _, 0, .str "malformed", rfl, rfl, sqt ep3, rfl, rfl, _, rfl, ifbt (by decide +kernel) ⟨_, rfl, q p3 G3 ((s1.trans s2).trans s3) ep3⟩⟩
          | ok d k2 =>
            rw [e3] at hmem ep3
            have hk2 := tv_len j _ d k2 e3
            rw [List.length_drop] at hk2
            have ep3 : G3 p3 = some (.tup [.str "read", .int ((i + 1 + c + k + k2 : Nat) : Int)]) := ep3
            refine ⟨_, rfl, p3, _, 0, .str "read", rfl, rfl, sqt ep3, rfl, rfl, _, rfl, ifbf (by decide +kernel) ?_⟩
            refine ⟨_, rfl, p3, _, 1, .int _, rfl, rfl, sqt ep3, rfl, ?_⟩
            refine ⟨acc ++ [d], k + k2, some (.int (0 + (u : Int))), some (.ref p3), ?_, s2.trans s3, by omega, ?_⟩
            · rw [show i + 1 + c + (k + k2) = i + 1 + c + k + k2 by omega]; rfl
            · rw [hmem]
              dsimp only
              rw [List.drop_drop, show n - (u + 1) = n - u - 1 by omega, show i + 1 + c + (k + k2) = i + 1 + c + k + k2 by omega]
        · rintro σ G2 ⟨acc, k, x6, x7, rfl, s2, hk, hmem⟩
          rw [Int.toNat_natCast, Nat.sub_self] at hmem
          have hok : memF (tv j) n (bs.drop (i + 1 + c)) [] 0 = .ok (.tuple acc) k := hmem
          rw [hok, lres_shift] at q
          refine ⟨_, rfl, (by show 2 ≤ sizeLine; decide), fun p2 hp2 => q p2 _ ((s1.trans s2).trans (same_upd hp2)) ?_⟩
          rw [upd_same, show i + 1 + c + k = i + (1 + c) + k by omega]
          rfl
theorem ok__law_read (T : TX K mg) : FnOk P w K mg base CX0 (23) T.a__law_read T.d__law_read ["row", "index", "depth"] (spR K 21) := okn__law_read T 21
end
def GoodRow (bs : List Int) : Prop := Bytes bs ∧ bs.length ≤ 90000 ∧ NoRun bs
def sp_right (K : PySem.W.Frag) : Sp := fun vs H Q _ => ∃ (a : Addr) (bs : List Int), vs = [.ref a] ∧ SqL K H a (bs.map V.int) ∧ GoodRow bs ∧ ∀ H', Same H H' → Q (.bl true) H'
def sp_replaced (K : PySem.W.Frag) : Sp := fun vs H Q _ => ∃ (a b : Addr) (bs ds : List Int), vs = [.ref a, .ref b] ∧ SqL K H a (bs.map V.int) ∧ SqL K H b (ds.map V.int) ∧ Bytes bs ∧ bs.length ≤ 90000 ∧ 0 < bs.length ∧ Drawn ds ∧ 8 ≤ ds.length ∧
  ∀ (p : Addr) (cs : List Int) (H' : Hp), Same H H' → H' p = some (.lst (cs.map V.int)) → Bytes cs → cs.length = bs.length → (∀ S, RunsK S 0 bs → RunsK S 3 cs) → Q (.ref p) H'
mutual
theorem okV_fits : ∀ (n : Nat) (d : PyData), okV n d = true → fits d = true
  | _, .none, _ => by simp [fits]
  | _, .bool _, _ => by simp [fits]
  | _, .int _, _ => by simp [fits]
  | n, .str x, h => by
    rw [okV_str, Bool.and_eq_true, decide_eq_true_eq] at h
    simp only [fits, decide_eq_true_eq]
    omega
  | 0, .tuple ds, h => by rw [okV_tup0] at h; cases h
  | n + 1, .tuple ds, h => by
    rw [okV_tup, Bool.and_eq_true, decide_eq_true_eq] at h
    simp only [fits, Bool.and_eq_true, decide_eq_true_eq]
    exact ⟨by omega, okA_fits n ds h.2⟩
  | _, .list ds, h => by rw [okV_lst] at h; cases h
  | m, .dict ds, h => by cases m <;> simp [okV] at h
theorem okA_fits : ∀ (n : Nat) (ds : List PyData), okA n ds = true → fitsA ds = true
  | _, [], _ => by simp [fitsA]
  | n, d :: ds, h => by
    simp only [okA, Bool.and_eq_true] at h
    simp only [fitsA, Bool.and_eq_true]
    exact ⟨okV_fits n d h.1, okA_fits n ds h.2⟩
end
theorem RunsK.mono {S k j : Nat} {l : List Int} (h : RunsK S k l) (hk : k ≤ j) : RunsK S j l := fun a n hn => by have := h a n hn; omega
def dueS (r : TR) (n : Nat) : Str := match r with
  | .ok _ k => if k < n then "malformed" else "read"
  | .trunc => "truncated"
  | .malf => "malformed"
theorem and_no {ta tb : TT} {σ : L2.St} {H : Hp} {Q : Bool → Hp → Prop} (ha : ∀ R : Bool → Hp → Prop, R false H → ta σ H R) (q : Q false H) : tAnd ta tb σ H Q := ha _ ((if_neg Bool.false_ne_true).mpr q)
section
variable {P : Program} {w : World} {K : PySem.W.Frag} {mg : Str → Option Value} {base : Heap}
theorem ok__law_right (T : TX K mg) : FnOk P w K mg base CX0 45 T.a__law_right T.d__law_right ["row"] (sp_right K) := by
  refine T.F__law_right.ok sc__law_right (fun vs H Q E h => ?_) (fun cdv A outer s H vs Q E hr h => ?_)
  · obtain ⟨a, bs, rfl, _⟩ := h
    rfl
  · obtain ⟨a, bs, rfl, hS, ⟨hb, hlen, hno⟩, q⟩ := h
    refine ⟨_, (pss_cons (ps_set (i := 1) sc__law_right.nd rfl (Or.inl rfl) (pe_call (ok__law_read T) (hr.mono (by decide)) (by rfl) T.g__law_read T.F__law_read.kp T.b__law_read .nil pass0 (pa_cons (pv 0) (pa_cons pe_int (pa_cons pe_int pa_nil)))))
      (C8.pss_cut (ps_if (PW.pt (pw_and (pt_cmpR op_eq (pe_ix ix_tup (pv 1) pe_int (fun _ _ => rfl)) pe_str (nomark _)) (pw_and1 (pt_cmpR op_lt (pe_ix ix_tup (pv 1) pe_int (fun _ _ => rfl)) (pe_callB call_len_seq (by rfl) T.n_len PySem.boot_len (pa_cons (pv 0) pa_nil)) (nomark _))))) (pss_one (ps_set (i := 1) sc__law_right.nd rfl (Or.inl rfl) (pe_tup (pa_cons pe_str pa_nil)))) pss_nil)
      (pss_cons (ps_try_cl rfl rfl sc__law_right.nd takes0 (fun W pn xe tk po => (pss_one (ps_set (i := 2) sc__law_right.nd rfl (Or.inl rfl) (pe_callS (ok_unpack T) (hr.mono (by decide)) (by rfl) T.g_unpack T.F_unpack.kp T.b_unpack (fun σ => passAt tk σ) (pa_cons (pe_callTy (callK_list (K := K) rfl) (by rfl) T.n_list (by decide +kernel) (pa_cons (pv 0) pa_nil)) pa_nil))))) (.cons (i := 3) rfl rfl ⟨rfl, by decide, .inl T.g_Truncated⟩ (fun a oe cls d pn hz hf => (pss_one (ps_ret (pe_and (pe_cmpR op_eq (pe_ix (ixK_tup (K := K) rfl) (pv 1) pe_int (fun _ _ => rfl)) pe_str (nomark _)) (pe_and (pe_callB (call_isE1 T.X_Truncated hz hf) (by rfl) T.n_isinstance (by decide +kernel) (pa_cons (pv 3) (pa_cons (pe_glob (v := .ref T.a_CodecError) (by rfl) T.g_CodecError rfl) pa_nil))) (pe_one (pe_not (pe_callB (call_isE1 T.X_Truncated hz hf) (by rfl) T.n_isinstance (by decide +kernel) (pa_cons (pv 3) (pa_cons (pe_glob (v := .ref T.a_Malformed) (by rfl) T.g_Malformed rfl) pa_nil)))))))))) (.cons (i := 3) rfl rfl ⟨rfl, by decide, .inl T.g_Malformed⟩ (fun a oe cls d pn hz hf => (pss_one (ps_ret (pe_and (pe_cmpR op_eq (pe_ix (ixK_tup (K := K) rfl) (pv 1) pe_int (fun _ _ => rfl)) pe_str (nomark _)) (pe_one (pe_callB (call_isE1 T.X_Malformed hz hf) (by rfl) T.n_isinstance (by decide +kernel) (pa_cons (pv 3) (pa_cons (pe_glob (v := .ref T.a_CodecError) (by rfl) T.g_CodecError rfl) pa_nil)))))))) .nil)))
      (pss_one (ps_ret (pe_and (pe_cmpR op_eq (pe_ix ix_tup (pv 1) pe_int (fun _ _ => rfl)) pe_str (nomark _)) (pe_one (pe_cmpR (op_eqD hr.units) (pe_call (ok_pack T) (hr.mono (by decide)) (by rfl) T.g_pack T.F_pack.kp T.b_pack .nil passL (pa_cons (pv 2) pa_nil)) (pv 0) (nomark _))))))))), ?_⟩
    have hml : (bs.map V.int).length = bs.length := List.length_map _
    refine ⟨_, rfl, a, bs, 0, rfl, hS, hb, Nat.zero_le _, hlen, hno, fun p G s1 ep => ?_⟩
    rw [List.drop_zero] at ep
    refine ⟨fun σ' G' => ∃ (p' : Addr) (xs : List V), σ' = [some (.ref a), some (.ref p'), none, none] ∧ Same G G' ∧ SqT K G' p' (.str (dueS (tv 20 bs) bs.length) :: xs), ?_, ?_⟩
    · dsimp only [gName, tNext, tSeq, tIfS]
      cases hrr : tv 20 bs with
      | trunc =>
        rw [hrr] at ep
        refine and_no (fun R q' => ⟨_, rfl, p, _, 0, .str "truncated", rfl, rfl, sqt ep, atI_nat (j := 0) rfl, rfl, _, rfl, ?_⟩) (ifbf rfl ⟨p, [], rfl, Same.refl _, sqt ep⟩)
        rw [decide_eq_false (by decide +kernel)]; exact q'
      | malf =>
        rw [hrr] at ep
        refine and_no (fun R q' => ⟨_, rfl, p, _, 0, .str "malformed", rfl, rfl, sqt ep, atI_nat (j := 0) rfl, rfl, _, rfl, ?_⟩) (ifbf rfl ⟨p, [], rfl, Same.refl _, sqt ep⟩)
        rw [decide_eq_false (by decide +kernel)]; exact q'
      | ok d k =>
        rw [hrr] at ep
        have ep : G p = some (.tup [.str "read", .int ((0 + k : Nat) : Int)]) := ep
        rw [Nat.zero_add] at ep
        refine and_use (x := true) (y := decide ((k : Int) < (bs.length : Int))) (fun R q' => ⟨_, rfl, p, _, 0, .str "read", rfl, rfl, sqt ep, atI_nat (j := 0) rfl, rfl, _, rfl, ?_⟩) (fun R q' => ⟨_, rfl, p, _, 1, .int (k : Int), rfl, rfl, sqt ep, rfl, _, rfl, a, _, rfl, .inl (s1.seq hS), _, _, rfl, rfl, _, rfl, ?_⟩) ?_
        · rw [decide_eq_true rfl]; exact q'
        · rw [hml]; exact q'
        refine ifb2 (fun hx => ?_) (fun hx => ?_)
        · have hx2 : (k : Int) < (bs.length : Int) := by simpa using hx
          refine ⟨(by show 1 ≤ sizeLine; decide), fun p2 hp2 => ⟨p2, [], rfl, same_upd hp2, ?_⟩⟩
          unfold dueS
          dsimp only
          rw [if_pos (by omega)]
          exact sqt upd_same
        · have hx2 : ¬ (k : Int) < (bs.length : Int) := by simpa using hx
          refine ⟨p, [.int (k : Int)], rfl, Same.refl _, ?_⟩
          unfold dueS
          dsimp only
          rw [if_neg (by omega)]
          exact sqt ep
    · rintro σ G' ⟨p', xs, rfl, s2, ep'⟩
      have s12 := s1.trans s2
      refine ⟨_, rfl, a, _, rfl, .inl (s12.seq hS), fun pl hpl => ?_⟩
      have s3 := same_upd (o := .lst (bs.map V.int)) hpl
      have el : (upd G' pl (.lst (bs.map V.int))) pl = some (.lst (bs.map V.int)) := upd_same
      have ep3 := sqt_same s3 ep'
      generalize upd G' pl (.lst (bs.map V.int)) = G3 at s3 el ep3
      have s123 := s12.trans s3
      have trunc : dueS (tv 20 bs) bs.length = "truncated" → ∀ G4, Same G3 G4 → SqT K G4 p' (.str "truncated" :: xs) := fun e G4 s4 => by rw [← e]; exact sqt_same s4 ep3
      have malf : dueS (tv 20 bs) bs.length = "malformed" → ∀ G4, Same G3 G4 → SqT K G4 p' (.str "malformed" :: xs) := fun e G4 s4 => by rw [← e]; exact sqt_same s4 ep3
      refine ⟨pl, bs, rfl, sql el, hb, hlen, ?_⟩
      cases hrr : tv 20 bs with
      | trunc =>
        intro G4 s4
        refine ⟨true, T.em_Truncated_Truncated, fun _ a' ha' => ?_, fun z => Bool.noConfusion z⟩
        refine ⟨_, rfl, p', _, 0, .str "truncated", rfl, rfl, trunc (by rw [hrr]; rfl) _ s4, atI_nat (j := 0) rfl, rfl, _, rfl, ifbt (decide_eq_true rfl) ?_⟩
        refine ⟨_, rfl, rfl, rfl, _, _, true, rfl, (fun _ r => r), T.y_Truncated_CodecError, true, rfl, ifbt rfl ?_⟩
        exact ⟨_, rfl, rfl, rfl, _, _, false, rfl, (fun _ r => r), T.y_Truncated_Malformed, false, rfl, q _ (s123.trans s4)⟩
      | malf =>
        intro G4 s4
        refine ⟨false, T.em_Truncated_Malformed, (fun z => Bool.noConfusion z), fun _ => ⟨true, T.em_Malformed_Malformed, fun _ a' ha' => ?_, fun z => Bool.noConfusion z⟩⟩
        refine ⟨_, rfl, p', _, 0, .str "malformed", rfl, rfl, malf (by rw [hrr]; rfl) _ s4, atI_nat (j := 0) rfl, rfl, _, rfl, ifbt (decide_eq_true rfl) ?_⟩
        exact ⟨_, rfl, rfl, rfl, _, _, true, rfl, (fun _ r => r), T.y_Malformed_CodecError, q _ (s123.trans s4)⟩
      | ok d k =>
        dsimp only
        by_cases hk : k < bs.length
        · rw [if_pos hk]
          intro G4 s4
          refine ⟨false, T.em_Truncated_Malformed, (fun z => Bool.noConfusion z), fun _ => ⟨true, T.em_Malformed_Malformed, fun _ a' ha' => ?_, fun z => Bool.noConfusion z⟩⟩
          refine ⟨_, rfl, p', _, 0, .str "malformed", rfl, rfl, malf (by rw [hrr]; unfold dueS; dsimp only; rw [if_pos hk]) _ s4, atI_nat (j := 0) rfl, rfl, _, rfl, ifbt (decide_eq_true rfl) ?_⟩
          exact ⟨_, rfl, rfl, rfl, _, _, true, rfl, (fun _ r => r), T.y_Malformed_CodecError, q _ (s123.trans s4)⟩
        · rw [if_neg hk]
          intro v G4 s4 hd
          have hok := tv_ok 20 bs d k hb hrr
          have hcan := tv_can 20 bs d k hb hrr
          rw [List.take_of_length_le (by omega)] at hcan
          have ep4 : SqT K G4 p' (.str "read" :: xs) := by
            have := sqt_same s4 ep3
            rw [hrr] at this
            unfold dueS at this
            dsimp only at this
            rw [if_neg hk] at this
            exact this
          have hsh := (flat_ints bs).sh (by decide)
          refine ⟨_, rfl, p', _, 0, .str "read", rfl, rfl, ep4, atI_nat (j := 0) rfl, rfl, _, rfl, ifbt (decide_eq_true rfl) ?_⟩
          refine ⟨_, rfl, v, d, rfl, hd, okV_fits 20 d hok, fun _ => ⟨by rw [hcan]; exact hlen, fun p5 G5 hp5 s5 e5 => ?_⟩, fun z => by rw [hok] at z; cases z⟩
          rw [hcan] at e5
          refine ⟨_, rfl, _, _, dp_ints (sql e5), dp_ints ((s123.trans (s4.trans s5)).seq hS), hsh, hsh, ?_⟩
          rw [eqv_self hsh]
          exact q _ (s123.trans (s4.trans s5))
def repB (m x : Int) (d7 : Int) : Int := x % (8 + 248 * (d7 % 2))
theorem ok__law_replaced (T : TX K mg) : FnOk P w K mg base CX0 1 T.a__law_replaced T.d__law_replaced ["row", "draws"] (sp_replaced K) := by
  refine T.F__law_replaced.ok sc__law_replaced (fun vs H Q E h => ?_) (fun cdv A outer s H vs Q E hr h => ?_)
  · obtain ⟨a, b, bs, ds, rfl, _⟩ := h
    rfl
  · obtain ⟨a, b, bs, ds, rfl, hS, hD, hb, hlen, hpos, hd, hl, q⟩ := h
    refine ⟨_, (pss_cons (ps_set (i := 2) sc__law_replaced.nd rfl (Or.inl rfl) (pe_callTy call_list_of (by rfl) T.n_list (by decide +kernel) (pa_cons (pv 0) pa_nil)))
      (pss_cons (ps_for PassesOwn.never rfl (pi_range1 (by rfl) T.n_range (pa_cons (pe_op op_add pe_int (pe_op op_mod (pe_callTy call_int1 (by rfl) T.n_int (by decide +kernel) (pa_cons (pe_ix ix_list (pv 1) pe_int (fun _ _ => rfl)) pa_nil)) pe_int)) pa_nil)) (pg_name (i := 3) sc__law_replaced.nd rfl (Or.inl rfl))
        (pss_cons (ps_set (i := 4) sc__law_replaced.nd rfl (Or.inl rfl) (pe_op op_mod (pe_callTy call_int1 (by rfl) T.n_int (by decide +kernel) (pa_cons (pe_op op_add (pe_op op_mul (pe_ix ix_list (pv 1) (pe_op op_add pe_int (pe_op op_mul pe_int (pv 3))) (fun _ _ => rfl)) pe_int) (pe_ix ix_list (pv 1) pe_int (fun _ _ => rfl))) pa_nil)) (pe_callB call_len_seq (by rfl) T.n_len PySem.boot_len (pa_cons (pv 0) pa_nil))))
        (pss_one (ps_asg (pe_op op_mod (pe_callTy call_int1 (by rfl) T.n_int (by decide +kernel) (pa_cons (pe_ix ix_list (pv 1) (pe_op op_add pe_int (pe_op op_mul pe_int (pv 3))) (fun _ _ => rfl)) pa_nil)) (pe_op op_add pe_int (pe_op op_mul pe_int (pe_callTy call_int1 (by rfl) T.n_int (by decide +kernel) (pa_cons (pe_op op_mod (pe_ix ix_list (pv 1) pe_int (fun _ _ => rfl)) pe_int) pa_nil))))) (pg_sub (pv 2) (pv 4) set_list)))))
      (pss_one (ps_ret (pv 2))))), ?_⟩
    have gt : ∀ {k : Nat} (h : k < ds.length), atI (ds.map V.int) (k : Int) = some (.int ds[k]) := fun h => at_map (List.getElem?_eq_getElem h)
    have hbd : ∀ {k : Nat} (h : k < ds.length), 0 ≤ ds[k] ∧ ds[k] < 997 := fun h => hd _ (List.getElem_mem h)
    have hml : (bs.map V.int).length = bs.length := List.length_map _
    have hb0 := hbd (show 0 < ds.length by omega)
    have hb7 := hbd (show 7 < ds.length by omega)
    refine ⟨_, rfl, a, _, rfl, .inl hS, fun o ho => ?_⟩
    have s1 := same_upd (o := .lst (bs.map V.int)) ho
    refine ⟨_, rfl, b, _, 0, .int ds[0], rfl, rfl, s1.seq hD, gt (k := 0) (by omega), .inl ⟨_, rfl, _, _, rfl, rfl, (by show (0 : Int) < _; decide), _, _, rfl, rfl, _, rfl, by omega, by omega, ?_⟩⟩
    refine for_range (lo := 0) (n := _) (fun i σ G => ∃ (cs : List Int) (x3 x4 : Option V), σ = [some (.ref a), some (.ref b), some (.ref o), x3, x4] ∧ Same H G ∧ G o = some (.lst (cs.map V.int)) ∧ Bytes cs ∧ cs.length = bs.length ∧ (∀ S, RunsK S 0 bs → RunsK S i cs)) ⟨bs, none, none, rfl, s1, upd_same, hb, rfl, fun S h => h⟩ ?_ ?_
    · rintro i σ G hi ⟨cs, x3, x4, rfl, s2, e2, hcb, hcl, hrn⟩
      have hi3 : i < 3 := by omega
      have hne : (bs.map V.int).length = bs.length := hml
      have g1 := gt (k := 1 + 2 * i) (by omega)
      have g2 := gt (k := 2 + 2 * i) (by omega)
      have g7 := gt (k := 7) (by omega)
      have b1 := hbd (show 1 + 2 * i < ds.length by omega)
      have b2 := hbd (show 2 + 2 * i < ds.length by omega)
      generalize ds[1 + 2 * i] = d1 at g1 b1
      generalize ds[2 + 2 * i] = d2 at g2 b2
      generalize ds[7] = d7 at g7 hb7
      have e1 : (1 : Int) + 2 * (0 + (i : Int)) = ((1 + 2 * i : Nat) : Int) := by omega
      have e22 : (2 : Int) + 2 * (0 + (i : Int)) = ((2 + 2 * i : Nat) : Int) := by omega
      rw [← e1] at g1
      rw [← e22] at g2
      have cm : ∀ x y : Int, 0 ≤ x → x < 1000 → CMul x y := fun x y h1 h2 => .inl ⟨by omega, by omega⟩
      have hm0 := Int.emod_nonneg (d1 * 997 + d7) (show (bs.length : Int) ≠ 0 by omega)
      have hm1 := Int.emod_lt_of_pos (d1 * 997 + d7) (show (0 : Int) < (bs.length : Int) by omega)
      obtain ⟨at', hat⟩ := Int.eq_ofNat_of_zero_le hm0
      have hM : 8 ≤ 8 + 248 * (d7 % 2) ∧ 8 + 248 * (d7 % 2) ≤ 256 := by omega
      have hy0 := Int.emod_nonneg d2 (show 8 + 248 * (d7 % 2) ≠ 0 by omega)
      have hy1 := Int.emod_lt_of_pos d2 (show 0 < 8 + 248 * (d7 % 2) by omega)
      refine ⟨_, rfl, _, rfl, _, _, rfl, rfl, cm _ _ (by omega) (by omega), _, _, rfl, rfl, b, _, _, .int d1, rfl, rfl, s2.seq hD, g1, _, _, rfl, rfl, cm _ _ (by omega) (by omega), _, rfl, b, _, 7, .int d7, rfl, rfl, s2.seq hD, g7, _, _, rfl, rfl, .inl ⟨_, rfl, _, rfl, a, _, rfl, .inl (s2.seq hS), _, _, rfl, rfl, (by rw [hml]; omega), ?_⟩⟩
      have hix : ixN (cs.map V.int).length ((d1 * 997 + d7) % ((bs.map V.int).length : Int)) = some at' := by rw [hml, hat]; unfold ixN; rw [List.length_map, hcl, if_pos (by omega), if_pos (by omega)]; rfl
      refine ⟨_, rfl, _, rfl, _, _, rfl, rfl, cm _ _ (by omega) (by omega), _, _, rfl, rfl, b, _, _, .int d2, rfl, rfl, s2.seq hD, g2, .inl ⟨_, rfl, _, rfl, b, _, 7, .int d7, rfl, rfl, s2.seq hD, g7, _, _, rfl, rfl, (by show (0 : Int) < 2; decide), .inl ⟨_, rfl, _, _, rfl, rfl, cm _ _ (by omega) (by omega), _, _, rfl, rfl, _, _, rfl, rfl, (by omega), _, rfl, _, rfl, ?_⟩⟩⟩
      refine ⟨o, _, _, at', rfl, rfl, e2, hix, ?_⟩
      refine ⟨cs.set at' (d2 % (8 + 248 * (d7 % 2))), _, _, rfl, same_put s2 ho, ?_, ?_, by rw [List.length_set]; exact hcl, fun S h => (hrn S h).set _ _⟩
      · rw [upd_same, List.map_set]
      · intro x hx
        rcases List.mem_or_eq_of_mem_set hx with h | rfl
        · exact hcb _ h
        · omega
    · rintro σ G ⟨cs, x3, x4, rfl, s2, e2, hcb, hcl, hrn⟩
      exact ⟨_, rfl, q o cs G s2 e2 hcb hcl fun S h => (hrn S h).mono (by omega)⟩
end
theorem NoRun.take {l : List Int} (h : NoRun l) (n : Nat) : NoRun (l.take n) := fun i hi => by
  rw [List.length_take] at hi
  obtain ⟨j, hj, b, e, hb⟩ := h i (by omega)
  exact ⟨j, hj, b, by rw [List.getElem?_take_of_lt (by omega)]; exact e, hb⟩
theorem GoodRow.take {l : List Int} (h : GoodRow l) (n : Nat) : GoodRow (l.take n) := ⟨fun b hb => h.1 b (List.mem_of_mem_take hb), by rw [List.length_take]; have := h.2.1; omega, h.2.2.take n⟩
theorem NoRun.app {l r : List Int} {S : Nat} (h : RunsK S 0 l) (hs : S + 283 + r.length < 2000) : NoRun (l ++ r) := fun i hi => by
  rw [List.length_append] at hi
  have hn : i + (2000 - r.length) ≤ l.length := by omega
  have h1 := h i (2000 - r.length) hn
  have h2 : 0 < badN (win l i (2000 - r.length)) := by omega
  unfold badN at h2
  obtain ⟨b, hb⟩ := List.exists_mem_of_length_pos h2
  obtain ⟨hm, hbad⟩ := List.mem_filter.mp hb
  obtain ⟨j, hj, e⟩ := List.mem_iff_getElem.mp hm
  have hlen : (win l i (2000 - r.length)).length ≤ 2000 - r.length := by unfold win; rw [List.length_take]; omega
  refine ⟨j, by omega, b, ?_, hbad⟩
  have e2 : (win l i (2000 - r.length))[j]? = some b := by rw [List.getElem?_eq_getElem hj, e]
  unfold win at e2
  rw [List.getElem?_take_of_lt (by omega), List.getElem?_drop] at e2
  rw [List.getElem?_append_left (by omega)]
  exact e2
def RowAt (H : Hp) (v : V) : Prop := ∃ (p : Addr) (bs : List Int), v = .ref p ∧ H p = some (.lst (bs.map V.int)) ∧ GoodRow bs
theorem RowAt.same {H H' : Hp} {v : V} (s : Same H H') (h : RowAt H v) : RowAt H' v := by
  obtain ⟨p, bs, rfl, e, g⟩ := h
  exact ⟨p, bs, rfl, s _ _ e, g⟩
def Rows (H : Hp) (vs : List V) : Prop := vs ≠ [] ∧ ∀ v ∈ vs, RowAt H v
theorem Rows.same {H H' : Hp} {vs : List V} (s : Same H H') (h : Rows H vs) : Rows H' vs := ⟨h.1, fun v hv => (h.2 v hv).same s⟩
theorem RowAt.apart {H : Hp} {vs : List V} {L : Addr} (hL : H L = some (.lst vs)) (h : Rows H vs) {p : Addr} {bs : List Int} (e : H p = some (.lst (bs.map V.int))) : p ≠ L := by
  rintro rfl
  rw [hL] at e
  have e2 : vs = bs.map V.int := by injection e with e; injection e
  obtain ⟨hn, hv⟩ := h
  cases vs with
  | nil => exact hn rfl
  | cons v vs =>
    obtain ⟨p', _, rfl, _⟩ := hv v (by simp)
    cases bs with
    | nil => cases e2
    | cons b bs => cases e2
theorem RowAt.put {H : Hp} {vs ws : List V} {L : Addr} (hL : H L = some (.lst vs)) (h : Rows H vs) {v : V} (hv : RowAt H v) : RowAt (upd H L (.lst ws)) v := by
  obtain ⟨p, bs, rfl, e, g⟩ := hv
  exact ⟨p, bs, rfl, by rw [upd_ne (RowAt.apart hL h e)]; exact e, g⟩
theorem Rows.put {H : Hp} {vs : List V} {L : Addr} (hL : H L = some (.lst vs)) (h : Rows H vs) {v : V} (hv : RowAt H v) : Rows (upd H L (.lst (vs ++ [v]))) (vs ++ [v]) := by
  refine ⟨by simp, fun x hx => ?_⟩
  rcases List.mem_append.mp hx with h' | h'
  · exact RowAt.put hL h (h.2 x h')
  · rw [List.mem_singleton.mp h']; exact RowAt.put hL h hv
def md (m : Int) (v : V) : V := match v with | .int i => .int (i % m) | u => u
theorem md_map (m : Int) (ns : List Int) : (ns.map V.int).map (md m) = (ns.map (· % m)).map V.int := by rw [List.map_map, List.map_map]; rfl
theorem md_bytes {m : Int} (h0 : 0 < m) (h1 : m ≤ 256) (ns : List Int) : Bytes (ns.map (· % m)) := fun b hb => by
  obtain ⟨z, _, rfl⟩ := List.mem_map.mp hb
  have := Int.emod_nonneg z (show m ≠ 0 by omega)
  have := Int.emod_lt_of_pos z h0
  omega
theorem Bytes.app {a b : List Int} (ha : Bytes a) (hb : Bytes b) : Bytes (a ++ b) := fun x hx => by
  rcases List.mem_append.mp hx with h | h
  · exact ha x h
  · exact hb x h
theorem GoodRow.short {l : List Int} (hb : Bytes l) (h : l.length < 2000) : GoodRow l := ⟨hb, by omega, NoRun.short h⟩
section
variable {P : Program} {w : World} {K : PySem.W.Frag} {mg : Str → Option Value} {base : Heap}
def sp_law (K : PySem.W.Frag) : Sp := fun vs H Q _ => ∃ (a : Addr) (ns : List Int), vs = [.ref a] ∧ SqL K H a (ns.map V.int) ∧ ns.length ≤ 63 ∧ ∀ H', Q (.bl true) H'
theorem ok_law (T : TX K mg) : FnOk P w K mg base CX0 46 T.a_law T.d_law ["script"] (sp_law K) := by
  refine T.F_law.ok sc_law (fun vs H Q E h => ?_) (fun cdv A outer s H vs Q E hr h => ?_)
  · obtain ⟨a, ns, rfl, _⟩ := h
    rfl
  · obtain ⟨a, ns, rfl, hS, hl, q⟩ := h
    refine ⟨_, (pss_cons (ps_set (i := 1) sc_law.nd rfl (Or.inl rfl) (pe_call (ok__law_draws T) (hr.mono (by decide)) (by rfl) T.g__law_draws T.F__law_draws.kp T.b__law_draws .nil pass0 (pa_cons (pv 0) (pa_cons pe_int pa_nil))))
      (pss_cons (ps_set (i := 2) sc_law.nd rfl (Or.inl rfl) (pe_call (ok__law_value T) (hr.mono (by decide)) (by rfl) T.g__law_value T.F__law_value.kp T.b__law_value .nil pass0 (pa_cons (pe_slice sl_list (pv 1) po_none (po_some (pe_op op_mul pe_int (pe_op op_add pe_int (pe_op op_mod (pe_callTy call_int1 (by rfl) T.n_int (by decide +kernel) (pa_cons (pe_ix ix_list (pv 1) pe_int (fun _ _ => rfl)) pa_nil)) pe_int))))) pa_nil)))
      (pss_cons (ps_set (i := 3) sc_law.nd rfl (Or.inl rfl) (pe_call (ok__law_packed T) (hr.mono (by decide)) (by rfl) T.g__law_packed T.F__law_packed.kp T.b__law_packed .nil pass0 (pa_cons (pv 2) pa_nil)))
      (pss_cons (ps_set (i := 4) sc_law.nd rfl (Or.inl rfl) (pe_lst (pa_cons (pv 3) pa_nil)))
      (pss_cons (ps_for PassesOwn.never rfl (pi_range1 (by rfl) T.n_range (pa_cons (pe_callB (call_min2 rfl) (by rfl) T.n_min (by decide +kernel) (pa_cons (pe_callB call_len_seq (by rfl) T.n_len PySem.boot_len (pa_cons (pv 3) pa_nil)) (pa_cons pe_int pa_nil))) pa_nil)) (pg_name (i := 5) sc_law.nd rfl (Or.inl rfl))
        (pss_one (ps_expr (pe_bm PySem.F.plainAttrs_list PySem.F.slot_list_append PySem.F.type_list_append mt_append (pv 4) (pa_cons (pe_slice sl_list (pv 3) po_none (po_some (pv 5))) pa_nil)))))
      (pss_cons (ps_for PassesOwn.never rfl (pi_range1 (by rfl) T.n_range (pa_cons pe_int pa_nil)) (pg_name (i := 6) sc_law.nd rfl (Or.inl rfl))
        (pss_cons (ps_set (i := 7) sc_law.nd rfl (Or.inl rfl) (pe_slice sl_list (pv 1) (po_some (pe_op op_add pe_int (pe_op op_mul pe_int (pv 6)))) (po_some (pe_op op_add pe_int (pe_op op_mul pe_int (pv 6))))))
        (pss_cons (ps_expr (pe_bm PySem.F.plainAttrs_list PySem.F.slot_list_append PySem.F.type_list_append mt_append (pv 4) (pa_cons (pe_call (ok__law_replaced T) (hr.mono (by decide)) (by rfl) T.g__law_replaced T.F__law_replaced.kp T.b__law_replaced .nil pass0 (pa_cons (pv 3) (pa_cons (pv 7) pa_nil))) pa_nil)))
        (pss_cons (ps_expr (pe_bm PySem.F.plainAttrs_list PySem.F.slot_list_append PySem.F.type_list_append mt_append (pv 4) (pa_cons (pe_lc (own := [("draw", 9)]) (g := gName 9) (tt := tYes) (by rfl) sc_law.nd (pi_list (pe_slice sl_list (pv 7) po_none (po_some (pe_op op_mod (pe_callTy call_int1 (by rfl) T.n_int (by decide +kernel) (pa_cons (pe_ix ix_list (pv 7) pe_int (fun _ _ => rfl)) pa_nil)) pe_int)))) (blkOk_by (own := [("draw", 9)]) (N := ["script", "draws", "value", "row", "rows", "size", "k", "part", "one", "draw"]) (sc := defScope s_law) (by decide +kernel)) (fun _ _ _ _ _ => pg_name (i := 9) sc_law.nd rfl (Or.inl rfl)) (fun _ _ _ _ _ => pts_nil) (fun _ _ _ _ _ => (pe_op op_mod (pe_callTy call_int1 (by rfl) T.n_int (by decide +kernel) (pa_cons (pv 9) pa_nil)) pe_int))) pa_nil)))
        (pss_cons (ps_expr (pe_bm PySem.F.plainAttrs_list PySem.F.slot_list_append PySem.F.type_list_append mt_append (pv 4) (pa_cons (pe_op op_cat (pv 3) (pe_lc (own := [("draw", 9)]) (g := gName 9) (tt := tYes) (by rfl) sc_law.nd (pi_list (pe_slice sl_list (pv 7) po_none (po_some (pe_op op_add pe_int (pe_op op_mod (pe_callTy call_int1 (by rfl) T.n_int (by decide +kernel) (pa_cons (pe_ix ix_list (pv 7) pe_int (fun _ _ => rfl)) pa_nil)) pe_int))))) (blkOk_by (own := [("draw", 9)]) (N := ["script", "draws", "value", "row", "rows", "size", "k", "part", "one", "draw"]) (sc := defScope s_law) (by decide +kernel)) (fun _ _ _ _ _ => pg_name (i := 9) sc_law.nd rfl (Or.inl rfl)) (fun _ _ _ _ _ => pts_nil) (fun _ _ _ _ _ => (pe_op op_mod (pe_callTy call_int1 (by rfl) T.n_int (by decide +kernel) (pa_cons (pv 9) pa_nil)) pe_int)))) pa_nil)))
        (pss_one (ps_expr (pe_bm PySem.F.plainAttrs_list PySem.F.slot_list_append PySem.F.type_list_append mt_append (pv 4) (pa_cons (pe_op op_cat (pe_op op_cat (pe_op op_rep (pe_lst (pa_cons pe_int (pa_cons pe_int pa_nil))) (pe_op op_add pe_int (pe_op op_mod (pv 6) pe_int))) (pe_lst (pa_cons (pe_op op_mod (pe_callTy call_int1 (by rfl) T.n_int (by decide +kernel) (pa_cons (pe_ix ix_list (pv 7) pe_int (fun _ _ => rfl)) pa_nil)) pe_int) pa_nil))) (pe_lc (own := [("draw", 9)]) (g := gName 9) (tt := tYes) (by rfl) sc_law.nd (pi_list (pe_slice sl_list (pv 7) po_none (po_some pe_int))) (blkOk_by (own := [("draw", 9)]) (N := ["script", "draws", "value", "row", "rows", "size", "k", "part", "one", "draw"]) (sc := defScope s_law) (by decide +kernel)) (fun _ _ _ _ _ => pg_name (i := 9) sc_law.nd rfl (Or.inl rfl)) (fun _ _ _ _ _ => pts_nil) (fun _ _ _ _ _ => (pe_op op_mod (pe_callTy call_int1 (by rfl) T.n_int (by decide +kernel) (pa_cons (pv 9) pa_nil)) pe_int)))) pa_nil)))))))))
      (pss_cons (ps_for PassesOwn.never rfl (pi_list (pv 4)) (pg_name (i := 8) sc_law.nd rfl (Or.inl rfl))
        (pss_one (ps_if (pt_not (pt_val (pe_call (ok__law_right T) (hr.mono (by decide)) (by rfl) T.g__law_right T.F__law_right.kp T.b__law_right .nil pass0 (pa_cons (pv 8) pa_nil)))) (pss_one (ps_ret pe_bl)) pss_nil)))
      (pss_one (ps_ret pe_bl))))))))), ?_⟩
    refine ⟨_, rfl, a, ns, 300, rfl, hS, hl, by decide, fun pd H1 ds _ s1 ed hd hdl => ?_⟩
    have h00 := hd (ds[0]'(by omega)) (List.getElem_mem _)
    have g0 : atI (ds.map V.int) 0 = some (.int (ds[0]'(by omega))) := at_map (i := 0) (List.getElem?_eq_getElem (by omega))
    generalize ds[0]'(by omega) = d0 at h00 g0
    obtain ⟨many, hmany⟩ : ∃ many : Nat, (1 : Int) + d0 % 6 = (many : Int) := ⟨((1 : Int) + d0 % 6).toNat, by omega⟩
    have hm6 : many ≤ 6 := by omega
    have hmj : (12 : Int) * (1 + d0 % 6) = ((12 * many : Nat) : Int) := by omega
    refine ⟨_, rfl, _, rfl, pd, _, 0, .int d0, rfl, rfl, sql ed, g0, .inl ⟨_, rfl, _, _, rfl, rfl, (by show (0 : Int) < _; decide), _, _, rfl, rfl, _, _, rfl, rfl, .inl ⟨by decide, by decide⟩, _, rfl, pd, _, rfl, sql ed, fun pq hpq => ?_⟩⟩
    rw [hmj, cut0n, ← List.map_take]
    have s2 := same_upd (o := .lst ((ds.take (12 * many)).map V.int)) hpq
    refine ⟨pq, ds.take (12 * many), many, rfl, sql upd_same, fun x hx => hd x (List.mem_of_mem_take hx), by rw [List.length_take]; omega, by omega, fun v es H2 s3 hv hve => ?_⟩
    have hok := okV_of 20 (.tuple es) (hve.val (by omega)).1 (by have := (hve.val (by omega)).2.1; omega)
    have hpl := (hve.val (by omega)).2.2
    have hbyt := pk_bytes 20 (.tuple es) hok
    have hrun := (Runs.tup (by have := hve.l; omega) hve.r).k
    refine ⟨_, rfl, v, .tuple es, rfl, hv, hok, by omega, fun pr H3 hpr s4 er => ?_⟩
    have s14 := (s2.trans s3).trans s4
    have ed3 := s14 _ _ ed
    clear hv hok hS s2 s3 s4 s14 ed g0 hpq
    have hrw : RunsK 748 0 (pkL (.tuple es)) := fun a n hn => by have := hrun a n hn; omega
    clear hrun hve
    have hpos : 0 < (pkL (.tuple es)).length := by rw [show pkL (.tuple es) = 6 :: (enc es.length ++ pkA es) by simp [pkL], List.length_cons]; omega
    generalize pkL (.tuple es) = row at hpl hbyt hrw er hpos
    have hml : (row.map V.int).length = row.length := List.length_map _
    have hgr : GoodRow row := ⟨hbyt, by omega, hrw.no (by omega)⟩
    refine ⟨_, rfl, (by show 1 ≤ sizeLine; decide), fun L hL => ?_⟩
    have s5 := same_upd (o := .lst [.ref pr]) hL
    have nL : pr ≠ L := fun z => by rw [z, hL] at er; cases er
    have hR0 : Rows (upd H3 L (.lst [.ref pr])) [.ref pr] := ⟨by simp, fun x hx => by rw [List.mem_singleton.mp hx]; exact ⟨pr, row, rfl, s5 _ _ er, hgr⟩⟩
    have eL0 : (upd H3 L (.lst [.ref pr])) L = some (.lst [.ref pr]) := upd_same
    generalize upd H3 L (.lst [.ref pr]) = H4 at s5 hR0 eL0
    have er4 := s5 _ _ er
    refine ⟨_, rfl, pr, _, rfl, .inl (sql er4), _, _, rfl, _, rfl, by split <;> omega, by split <;> omega, ?_⟩
    refine for_range (lo := 0) (n := _) (fun i σ G => ∃ (vs : List V) (x5 : Option V), σ = [some (.ref a), some (.ref pd), some v, some (.ref pr), some (.ref L), x5, none, none, none, none] ∧ Same H3 G ∧ G L = some (.lst vs) ∧ Rows G vs ∧ vs.length ≤ 1 + i) ⟨[.ref pr], none, rfl, s5, eL0, hR0, by simp⟩ ?_ ?_
    · rintro i σ G hi ⟨vs, x5, rfl, s6, eL, hR, hvl⟩
      have hi60 : i < 60 := by split at hi <;> omega
      refine ⟨_, rfl, .inl ⟨rfl, _, sql eL⟩, _, rfl, _, rfl, _, rfl, pr, _, rfl, sql (s6 _ _ er), fun p hp => ?_⟩
      rw [show (0 : Int) + (i : Int) = (i : Int) by omega, cut0n, ← List.map_take]
      have nL2 : L ≠ p := fun z => by rw [z, hp] at eL; cases eL
      have s7 := same_upd (o := .lst ((row.take i).map V.int)) hp
      have eL2 := s7 _ _ eL
      refine ⟨L, vs, .ref p, rfl, rfl, eL2, szl (by omega), ?_⟩
      refine ⟨_, _, rfl, same_put (s6.trans s7) hL, upd_same, Rows.put eL2 (hR.same s7) ⟨p, row.take i, rfl, upd_same, hgr.take i⟩, by rw [List.length_append]; simp only [List.length_cons, List.length_nil]; omega⟩
    rintro σ G ⟨vs, x5, rfl, s6, eL, hR, hvl⟩
    have hvl : vs.length ≤ 61 := by
      refine Nat.le_trans hvl ?_
      split <;> omega
    refine ⟨_, rfl, by decide, by decide, ?_⟩
    refine for_range (lo := 0) (n := _) (fun i σ G => ∃ (vs : List V) (x6 x7 : Option V), σ = [some (.ref a), some (.ref pd), some v, some (.ref pr), some (.ref L), x5, x6, x7, none, none] ∧ Same H3 G ∧ G L = some (.lst vs) ∧ Rows G vs ∧ vs.length ≤ 61 + 4 * i) ⟨vs, none, none, rfl, s6, eL, hR, hvl⟩ ?_ ?_
    · clear s6 eL hR hvl s5 hR0 eL0 er4
      rintro k σ G hk ⟨vs, x6, x7, rfl, s6, eL, hR, hvl⟩
      have hk12 : k < 12 := by omega
      have k0 : (0 : Int) + (k : Int) = (k : Int) := by omega
      have eA : (100 : Int) + 16 * (0 + (k : Int)) = ((100 + 16 * k : Nat) : Int) := by omega
      have eB : (116 : Int) + 16 * (0 + (k : Int)) = ((116 + 16 * k : Nat) : Int) := by omega
      refine ⟨_, rfl, _, rfl, _, _, rfl, rfl, .inl ⟨by decide, by decide⟩, _, _, rfl, rfl, _, rfl, _, rfl, _, _, rfl, rfl, .inl ⟨by decide, by decide⟩, _, _, rfl, rfl, _, rfl, pd, _, rfl, sql (s6 _ _ ed3), fun pp hpp => ?_⟩
      rw [cut_ints ds eA eB]
      have hcl : ((ds.drop (100 + 16 * k)).take (116 + 16 * k - (100 + 16 * k))).length = 16 := by rw [List.length_take, List.length_drop]; omega
      have hcd : Drawn ((ds.drop (100 + 16 * k)).take (116 + 16 * k - (100 + 16 * k))) := fun x hx => hd x (List.mem_of_mem_drop (List.mem_of_mem_take hx))
      generalize (ds.drop (100 + 16 * k)).take (116 + 16 * k - (100 + 16 * k)) = part at hcl hcd
      have nLp : L ≠ pp := fun z => by rw [z, hpp] at eL; cases eL
      have s7 := same_upd (o := .lst (part.map V.int)) hpp
      have ep : (upd G pp (.lst (part.map V.int))) pp = some (.lst (part.map V.int)) := upd_same
      have eL1 := s7 _ _ eL
      have hR1 := hR.same s7
      have s67 := s6.trans s7
      generalize upd G pp (.lst (part.map V.int)) = G1 at s7 ep eL1 hR1 s67
      clear s6 s7 eL hR hpp
      have gp : ∀ {j : Nat} (h : j < part.length), atI (part.map V.int) (j : Int) = some (.int part[j]) := fun h => at_map (List.getElem?_eq_getElem h)
      have hbp : ∀ {j : Nat} (h : j < part.length), 0 ≤ part[j] ∧ part[j] < 997 := fun h => hcd _ (List.getElem_mem h)
      have fr : ∀ {G : Hp} {vs : List V}, G L = some (.lst vs) → Rows G vs → G pp = some (.lst (part.map V.int)) → pp ≠ L := fun e r h => RowAt.apart e r h
      have b3 := hbp (show 3 < part.length by omega)
      have b14 := hbp (show 14 < part.length by omega)
      have b15 := hbp (show 15 < part.length by omega)
      have g3 := gp (show 3 < part.length by omega)
      have g14 := gp (show 14 < part.length by omega)
      have g15 := gp (show 15 < part.length by omega)
      generalize part[3] = q3 at b3 g3
      generalize part[14] = q14 at b14 g14
      generalize part[15] = q15 at b15 g15
      -- a replaced row
      refine ⟨_, rfl, .inl ⟨rfl, _, sql eL1⟩, _, rfl, _, rfl, pr, pp, row, part, rfl, sql (s67 _ _ er), sql ep, hbyt, hgr.2.1, hpos, hcd, by omega, fun p1 cs G2 s8 e1 hb1 hl1 hr1 => ?_⟩
      have eL2 := s8 _ _ eL1
      refine ⟨L, vs, .ref p1, rfl, rfl, eL2, szl (by omega), ?_⟩
      have ep2 := s8 _ _ ep
      have hR2 := hR1.same s8
      have s68 := same_put (o := .lst (vs ++ [.ref p1])) (s67.trans s8) hL
      have ep3 : (upd G2 L (.lst (vs ++ [.ref p1]))) pp = some (.lst (part.map V.int)) := by rw [upd_ne (RowAt.apart eL2 hR2 ep2)]; exact ep2
      have hR3 := Rows.put eL2 hR2 ⟨p1, cs, rfl, e1, hb1, by rw [hl1]; exact hgr.2.1, (hr1 748 hrw).no (by decide)⟩
      have eL3 : (upd G2 L (.lst (vs ++ [.ref p1]))) L = some (.lst (vs ++ [.ref p1])) := upd_same
      have hvl3 : (vs ++ [V.ref p1]).length ≤ 62 + 4 * k := by rw [List.length_append]; simp only [List.length_cons, List.length_nil]; omega
      generalize upd G2 L (.lst (vs ++ [.ref p1])) = G3 at s68 ep3 hR3 eL3
      generalize vs ++ [V.ref p1] = vs3 at hR3 eL3 hvl3
      clear eL2 ep2 hR2 s8 s67 eL1 hR1 ep e1 hb1 hl1 hr1
      -- a small row
      refine ⟨_, rfl, .inl ⟨rfl, _, sql eL3⟩, ?_⟩
      obtain ⟨j1, hj1⟩ : ∃ j1 : Nat, q15 % 16 = (j1 : Int) := ⟨(q15 % 16).toNat, by omega⟩
      have hj16 : j1 < 16 := by omega
      refine lc_cut (K := K) ((part.take j1).map V.int) (md 9) (fun R h => ?_) ?_ ?_ (fun i x G Q' hx hG h => ?_) (fun o1 G4 _ s9 e9 => ?_)
      · rw [List.map_take, ← cut0n, ← hj1] at h
        exact ⟨_, rfl, _, rfl, pp, _, 15, .int q15, rfl, rfl, sql ep3, g15, .inl ⟨_, rfl, _, _, rfl, rfl, (by show (0 : Int) < _; decide), _, rfl, pp, _, rfl, sql ep3, fun p hp => ⟨p, rfl, ⟨_, sql upd_same⟩, h p hp⟩⟩⟩
      · rw [List.length_map, List.length_take]; omega
      · intro x; rfl
      · obtain ⟨z, hz, rfl⟩ := map_at hx
        exact ⟨_, rfl, .inl ⟨_, rfl, _, _, rfl, rfl, (by show (0 : Int) < _; decide), h⟩⟩
      rw [md_map] at e9
      have eL4 := s9 _ _ eL3
      refine ⟨L, vs3, .ref o1, rfl, rfl, eL4, szl (by omega), ?_⟩
      have ep4 := s9 _ _ ep3
      have hR4 := hR3.same s9
      have s69 := same_put (o := .lst (vs3 ++ [.ref o1])) (s68.trans s9) hL
      have ep5 : (upd G4 L (.lst (vs3 ++ [.ref o1]))) pp = some (.lst (part.map V.int)) := by rw [upd_ne (RowAt.apart eL4 hR4 ep4)]; exact ep4
      have hR5 := Rows.put eL4 hR4 ⟨o1, _, rfl, e9, .short (md_bytes (by decide) (by decide) _) (by rw [List.length_map, List.length_take]; omega)⟩
      have eL5 : (upd G4 L (.lst (vs3 ++ [.ref o1]))) L = some (.lst (vs3 ++ [.ref o1])) := upd_same
      have hvl5 : (vs3 ++ [V.ref o1]).length ≤ 63 + 4 * k := by rw [List.length_append]; simp only [List.length_cons, List.length_nil]; omega
      generalize upd G4 L (.lst (vs3 ++ [.ref o1])) = G5 at s69 ep5 hR5 eL5
      generalize vs3 ++ [V.ref o1] = vs5 at hR5 eL5 hvl5
      clear eL4 ep4 hR4 s9 s68 eL3 hR3 ep3 e9 hvl3 hj1
      -- the row and some bytes behind it
      have er5 := s69 _ _ er
      refine ⟨_, rfl, .inl ⟨rfl, _, sql eL5⟩, _, rfl, ?_⟩
      obtain ⟨j2, hj2⟩ : ∃ j2 : Nat, (1 : Int) + q14 % 3 = (j2 : Int) := ⟨((1 : Int) + q14 % 3).toNat, by omega⟩
      have hj3 : j2 ≤ 3 := by omega
      refine lc_cut (K := K) ((part.take j2).map V.int) (md 256) (fun R h => ?_) ?_ ?_ (fun i x G Q' hx hG h => ?_) (fun o2 G6 _ s9 e9 => ?_)
      · rw [List.map_take, ← cut0n, ← hj2] at h
        exact ⟨_, rfl, _, rfl, pp, _, 14, .int q14, rfl, rfl, sql ep5, g14, .inl ⟨_, rfl, _, _, rfl, rfl, (by show (0 : Int) < _; decide), _, _, rfl, rfl, _, rfl, pp, _, rfl, sql ep5, fun p hp => ⟨p, rfl, ⟨_, sql upd_same⟩, h p hp⟩⟩⟩
      · rw [List.length_map, List.length_take]; omega
      · intro x; rfl
      · obtain ⟨z, hz, rfl⟩ := map_at hx
        exact ⟨_, rfl, .inl ⟨_, rfl, _, _, rfl, rfl, (by show (0 : Int) < _; decide), h⟩⟩
      rw [md_map] at e9
      have hml6 : ((part.take j2).map (· % 256)).length ≤ 3 := by rw [List.length_map, List.length_take]; omega
      refine ⟨pr, o2, _, _, rfl, rfl, s9 _ _ er5, e9, sz (by rw [List.length_map, List.length_map]; omega), fun p2 hp2 => ?_⟩
      rw [← List.map_append]
      have s10 := s9.trans (same_upd (o := .lst ((row ++ (part.take j2).map (· % 256)).map V.int)) hp2)
      have eL6 := s10 _ _ eL5
      refine ⟨L, vs5, .ref p2, rfl, rfl, eL6, szl (by omega), ?_⟩
      have ep6 := s10 _ _ ep5
      have hR6 := hR5.same s10
      have hR7 := Rows.put eL6 hR6 ⟨p2, _, rfl, upd_same, hbyt.app (md_bytes (by decide) (by decide) _), by rw [List.length_append]; omega, NoRun.app hrw (by omega)⟩
      have s70 := same_put (o := .lst (vs5 ++ [.ref p2])) (s69.trans s10) hL
      have ep7 := (upd_ne (H := upd G6 p2 (.lst ((row ++ (part.take j2).map (· % 256)).map V.int))) (o := .lst (vs5 ++ [.ref p2])) (RowAt.apart eL6 hR6 ep6)).trans ep6
      have eL7 : (upd (upd G6 p2 (.lst ((row ++ (part.take j2).map (· % 256)).map V.int))) L (.lst (vs5 ++ [.ref p2]))) L = some (.lst (vs5 ++ [.ref p2])) := upd_same
      have hvl7 : (vs5 ++ [V.ref p2]).length ≤ 64 + 4 * k := by rw [List.length_append]; simp only [List.length_cons, List.length_nil]; omega
      generalize upd (upd G6 p2 (.lst ((row ++ (part.take j2).map (· % 256)).map V.int))) L (.lst (vs5 ++ [.ref p2])) = G7 at s70 ep7 hR7 eL7
      generalize vs5 ++ [V.ref p2] = vs7 at hR7 eL7 hvl7
      clear eL6 ep6 hR6 s10 s9 s69 eL5 hR5 ep5 e9 hvl5 hj2 hml6 er5
      -- nested tuples
      refine ⟨_, rfl, .inl ⟨rfl, _, sql eL7⟩, (by show 2 ≤ sizeLine; decide), fun p3 hp3 => ?_⟩
      have s11 := same_upd (o := .lst [.int 6, .int 1]) hp3
      obtain ⟨n, hn⟩ : ∃ n : Nat, (17 : Int) + (0 + (k : Int)) % 6 = (n : Int) := ⟨((17 : Int) + (0 + (k : Int)) % 6).toNat, by omega⟩
      have hn22 : n ≤ 22 := by omega
      have hrl : (List.replicate n ([6, 1] : List Int)).flatten.length = 2 * n := by
        rw [List.length_flatten, List.map_replicate, List.sum_replicate_nat]
        simp only [List.length_cons, List.length_nil]
        omega
      have hrb : Bytes (List.replicate n ([6, 1] : List Int)).flatten := fun b hb => by
        obtain ⟨l, hl1, hl2⟩ := List.mem_flatten.mp hb
        rw [List.eq_of_mem_replicate hl1] at hl2
        simp only [List.mem_cons, List.not_mem_nil, or_false] at hl2
        omega
      refine ⟨_, rfl, _, _, rfl, rfl, (by show (0 : Int) < _; decide), _, _, rfl, rfl, p3, _, _, rfl, rfl, upd_same, by omega, by omega, (by rw [hn]; show 2 * n ≤ sizeLine; exact sz (by omega)), fun p4 hp4 => ?_⟩
      rw [hn]
      have hrep : (List.replicate (n : Int).toNat [V.int 6, V.int 1]).flatten = (List.replicate n ([6, 1] : List Int)).flatten.map V.int := rep_ints [6, 1] n
      rw [hrep]
      generalize (List.replicate n ([6, 1] : List Int)).flatten = rp at hrl hrb
      have s12 := s11.trans (same_upd (o := .lst (rp.map V.int)) hp4)
      have e4 : (upd (upd G7 p3 (.lst [.int 6, .int 1])) p4 (.lst (rp.map V.int))) p4 = some (.lst (rp.map V.int)) := upd_same
      generalize upd (upd G7 p3 (.lst [.int 6, .int 1])) p4 (.lst (rp.map V.int)) = G8 at s12 e4
      have h90 := Int.emod_nonneg q3 (show (9 : Int) ≠ 0 by decide)
      have h91 := Int.emod_lt_of_pos q3 (show (0 : Int) < 9 by decide)
      refine ⟨_, rfl, pp, _, 3, .int q3, rfl, rfl, sql (s12 _ _ ep7), g3, .inl ⟨_, rfl, _, _, rfl, rfl, (by show (0 : Int) < _; decide), (by show 1 ≤ sizeLine; decide), fun p5 hp5 => ?_⟩⟩
      have s13 := same_upd (o := .lst [.int (q3 % 9)]) hp5
      have n45 : p4 ≠ p5 := fun z => by rw [← z, e4] at hp5; cases hp5
      refine ⟨p4, p5, _, [.int (q3 % 9)], rfl, rfl, s13 _ _ e4, upd_same, sz (by rw [List.length_map]; simp only [List.length_cons, List.length_nil]; omega), fun p6 hp6 => ?_⟩
      rw [show rp.map V.int ++ [V.int (q3 % 9)] = (rp ++ [q3 % 9]).map V.int by rw [List.map_append]; rfl]
      have s14 := (s12.trans s13).trans (same_upd (o := .lst ((rp ++ [q3 % 9]).map V.int)) hp6)
      have e6 : (upd (upd G8 p5 (.lst [.int (q3 % 9)])) p6 (.lst ((rp ++ [q3 % 9]).map V.int))) p6 = some (.lst ((rp ++ [q3 % 9]).map V.int)) := upd_same
      generalize upd (upd G8 p5 (.lst [.int (q3 % 9)])) p6 (.lst ((rp ++ [q3 % 9]).map V.int)) = G9 at s14 e6
      have hb6 : Bytes (rp ++ [q3 % 9]) := hrb.app fun b hb => by rw [List.mem_singleton.mp hb]; omega
      have hl6 : (rp ++ [q3 % 9]).length ≤ 45 := by rw [List.length_append]; simp only [List.length_cons, List.length_nil]; omega
      generalize rp ++ [q3 % 9] = rq at e6 hb6 hl6
      have ep9 := s14 _ _ ep7
      have eL9 := s14 _ _ eL7
      have hR9 := hR7.same s14
      have s71 := s70.trans s14
      clear s14 s13 s12 s11 hR7 eL7 ep7 s70 e4 hp6 hp5 hp4 hp3
      refine lc_cut (K := K) ((part.take 2).map V.int) (md 130) (fun R h => ?_) ?_ ?_ (fun i x G Q' hx hG h => ?_) (fun o3 GA _ s9 e9 => ?_)
      · rw [List.map_take, ← cut0n] at h
        exact ⟨_, rfl, 2, rfl, pp, _, rfl, sql ep9, fun p hp => ⟨p, rfl, ⟨_, sql upd_same⟩, h p hp⟩⟩
      · rw [List.length_map, List.length_take]; omega
      · intro x; rfl
      · obtain ⟨z, hz, rfl⟩ := map_at hx
        exact ⟨_, rfl, .inl ⟨_, rfl, _, _, rfl, rfl, (by show (0 : Int) < _; decide), h⟩⟩
      rw [md_map] at e9
      have hml6 : ((part.take 2).map (· % 130)).length ≤ 2 := by rw [List.length_map, List.length_take]; omega
      refine ⟨p6, o3, _, _, rfl, rfl, s9 _ _ e6, e9, sz (by rw [List.length_map, List.length_map]; omega), fun p7 hp7 => ?_⟩
      rw [← List.map_append]
      have s10 := s9.trans (same_upd (o := .lst ((rq ++ (part.take 2).map (· % 130)).map V.int)) hp7)
      have eL6 := s10 _ _ eL9
      refine ⟨L, vs7, .ref p7, rfl, rfl, eL6, szl (by omega), ?_⟩
      have hR6 := hR9.same s10
      exact ⟨vs7 ++ [.ref p7], _, _, rfl, same_put (s71.trans s10) hL, upd_same, Rows.put eL6 hR6 ⟨p7, _, rfl, upd_same, .short (hb6.app (md_bytes (by decide) (by decide) _)) (by rw [List.length_append]; omega)⟩, by rw [List.length_append]; simp only [List.length_cons, List.length_nil]; omega⟩
    rintro σ G ⟨vs, x6, x7, rfl, s6, eL, hR, hvl⟩
    refine ⟨_, rfl, L, rfl, ⟨_, sql eL⟩, for_list (K := K) (a := L) (xs := vs) (fun i σ G' => ∃ x8, σ = [some (.ref a), some (.ref pd), some v, some (.ref pr), some (.ref L), x5, x6, x7, x8, none] ∧ Same G G') ⟨none, rfl, Same.refl _⟩ (fun i σ G _ h => by obtain ⟨_, _, s⟩ := h; exact sql (s _ _ eL)) ?_ ?_⟩
    · rintro i x σ G8 hx ⟨x8, rfl, s14⟩
      obtain ⟨p, bs, rfl, e, g⟩ := hR.2 x (List.mem_of_getElem? hx)
      exact ⟨_, rfl, p, bs, rfl, sql (s14 _ _ e), g, fun G9 s15 => ⟨true, rfl, ifbf rfl ⟨_, rfl, s14.trans s15⟩⟩⟩
    · rintro σ G8 ⟨x8, rfl, s14⟩
      exact q _
end
theorem all_mk {l : PySem.W.OpenLaw} {w : World} {K : PySem.W.Frag} {h : Heap} {mg : Str → Option Value} {fa : Addr} (X : K.In h) (G : h.Ns mainGlobals mg) (hfa : mg "law" = some (.ref fa))
    {e_MajordomoError : Addr} {e_CodecError : Addr} {e_Truncated : Addr} {e_Malformed : Addr} {e_NotAValue : Addr} {f_has_plain_characters : Addr} {od_has_plain_characters an_has_plain_characters : Option Addr} {sl_has_plain_characters : Array (Option Value)} {oc_has_plain_characters kV_has_plain_characters dc_has_plain_characters pm_has_plain_characters cd_has_plain_characters ct_has_plain_characters : Value} {f_put_number : Addr} {od_put_number an_put_number : Option Addr} {sl_put_number : Array (Option Value)} {oc_put_number kV_put_number dc_put_number pm_put_number cd_put_number ct_put_number : Value} {f_take_number : Addr} {od_take_number an_take_number : Option Addr} {sl_take_number : Array (Option Value)} {oc_take_number kV_take_number dc_take_number pm_take_number cd_take_number ct_take_number : Value} {f_is_value : Addr} {od_is_value an_is_value : Option Addr} {sl_is_value : Array (Option Value)} {oc_is_value kV_is_value dc_is_value pm_is_value cd_is_value ct_is_value : Value} {f__is_value_within : Addr} {od__is_value_within an__is_value_within : Option Addr} {sl__is_value_within : Array (Option Value)} {oc__is_value_within kV__is_value_within dc__is_value_within pm__is_value_within cd__is_value_within ct__is_value_within : Value} {f_pack : Addr} {od_pack an_pack : Option Addr} {sl_pack : Array (Option Value)} {oc_pack kV_pack dc_pack pm_pack cd_pack ct_pack : Value} {f__packed : Addr} {od__packed an__packed : Option Addr} {sl__packed : Array (Option Value)} {oc__packed kV__packed dc__packed pm__packed cd__packed ct__packed : Value} {f_unpack : Addr} {od_unpack an_unpack : Option Addr} {sl_unpack : Array (Option Value)} {oc_unpack kV_unpack dc_unpack pm_unpack cd_unpack ct_unpack : Value} {f__take_value : Addr} {od__take_value an__take_value : Option Addr} {sl__take_value : Array (Option Value)} {oc__take_value kV__take_value dc__take_value pm__take_value cd__take_value ct__take_value : Value} {f__checked_integer : Addr} {od__checked_integer an__checked_integer : Option Addr} {sl__checked_integer : Array (Option Value)} {oc__checked_integer kV__checked_integer dc__checked_integer pm__checked_integer cd__checked_integer ct__checked_integer : Value} {f__take_text : Addr} {od__take_text an__take_text : Option Addr} {sl__take_text : Array (Option Value)} {oc__take_text kV__take_text dc__take_text pm__take_text cd__take_text ct__take_text : Value} {f__take_members : Addr} {od__take_members an__take_members : Option Addr} {sl__take_members : Array (Option Value)} {oc__take_members kV__take_members dc__take_members pm__take_members cd__take_members ct__take_members : Value} {f__law_draws : Addr} {od__law_draws an__law_draws : Option Addr} {sl__law_draws : Array (Option Value)} {oc__law_draws kV__law_draws dc__law_draws pm__law_draws cd__law_draws ct__law_draws : Value} {f__law_char : Addr} {od__law_char an__law_char : Option Addr} {sl__law_char : Array (Option Value)} {oc__law_char kV__law_char dc__law_char pm__law_char cd__law_char ct__law_char : Value} {f__law_integer : Addr} {od__law_integer an__law_integer : Option Addr} {sl__law_integer : Array (Option Value)} {oc__law_integer kV__law_integer dc__law_integer pm__law_integer cd__law_integer ct__law_integer : Value} {f__law_leaf : Addr} {od__law_leaf an__law_leaf : Option Addr} {sl__law_leaf : Array (Option Value)} {oc__law_leaf kV__law_leaf dc__law_leaf pm__law_leaf cd__law_leaf ct__law_leaf : Value} {f__law_value : Addr} {od__law_value an__law_value : Option Addr} {sl__law_value : Array (Option Value)} {oc__law_value kV__law_value dc__law_value pm__law_value cd__law_value ct__law_value : Value} {f__law_number : Addr} {od__law_number an__law_number : Option Addr} {sl__law_number : Array (Option Value)} {oc__law_number kV__law_number dc__law_number pm__law_number cd__law_number ct__law_number : Value} {f__law_packed : Addr} {od__law_packed an__law_packed : Option Addr} {sl__law_packed : Array (Option Value)} {oc__law_packed kV__law_packed dc__law_packed pm__law_packed cd__law_packed ct__law_packed : Value} {f__law_take_number : Addr} {od__law_take_number an__law_take_number : Option Addr} {sl__law_take_number : Array (Option Value)} {oc__law_take_number kV__law_take_number dc__law_take_number pm__law_take_number cd__law_take_number ct__law_take_number : Value} {f__law_take_text : Addr} {od__law_take_text an__law_take_text : Option Addr} {sl__law_take_text : Array (Option Value)} {oc__law_take_text kV__law_take_text dc__law_take_text pm__law_take_text cd__law_take_text ct__law_take_text : Value} {f__law_read : Addr} {od__law_read an__law_read : Option Addr} {sl__law_read : Array (Option Value)} {oc__law_read kV__law_read dc__law_read pm__law_read cd__law_read ct__law_read : Value} {f__law_limit : Addr} {od__law_limit an__law_limit : Option Addr} {sl__law_limit : Array (Option Value)} {oc__law_limit kV__law_limit dc__law_limit pm__law_limit cd__law_limit ct__law_limit : Value} {f__law_right : Addr} {od__law_right an__law_right : Option Addr} {sl__law_right : Array (Option Value)} {oc__law_right kV__law_right dc__law_right pm__law_right cd__law_right ct__law_right : Value} {f__law_replaced : Addr} {od__law_replaced an__law_replaced : Option Addr} {sl__law_replaced : Array (Option Value)} {oc__law_replaced kV__law_replaced dc__law_replaced pm__law_replaced cd__law_replaced ct__law_replaced : Value} {f_law : Addr} {od_law an_law : Option Addr} {sl_law : Array (Option Value)} {oc_law kV_law dc_law pm_law cd_law ct_law : Value} {t_SPACE : Tok} {t_PERCENT : Tok} {t_TILDE : Tok} {t_MOST_BYTES : Tok} {t_MOST_BITS : Tok} {t_MOST_LENGTH : Tok} {t_MOST_DEPTH : Tok} {t_FALSE_TAG : Tok} {t_TRUE_TAG : Tok} {t_NATURAL_TAG : Tok} {t_NEGATIVE_TAG : Tok} {t_TEXT_TAG : Tok} {t_TUPLE_TAG : Tok} {ca_CONSTANTS : Addr} {cd0_CONSTANTS : Option Addr} {cn_CONSTANTS : Nat} {cs_CONSTANTS : Array (Option Value)} {cv_CONSTANTS : List Value} {t_CHARACTERS : Tok} {t_PERCENT_BYTE : Tok}
    (g_MajordomoError : PySem.W.nsIn K mainGlobals "MajordomoError" = some (some (.ref e_MajordomoError)))
    (x_MajordomoError : PySem.W.excIn K e_MajordomoError [.type "ValueError", .type "Exception", .type "BaseException", .type "object"] "ValueError.__new__" = true)
    (k_MajordomoError : PySem.W.keepIn K (.ref e_MajordomoError) = true)
    (s_MajordomoError : PySem.W.subIn K (.ref e_MajordomoError) (.type "BaseException") = some true)
    (t_MajordomoError : PySem.W.typeIn K (.ref e_MajordomoError) = some (.type "type"))
    (g_CodecError : PySem.W.nsIn K mainGlobals "CodecError" = some (some (.ref e_CodecError)))
    (x_CodecError : PySem.W.excIn K e_CodecError [.type "ValueError", .type "Exception", .type "BaseException", .type "object"] "ValueError.__new__" = true)
    (k_CodecError : PySem.W.keepIn K (.ref e_CodecError) = true)
    (s_CodecError : PySem.W.subIn K (.ref e_CodecError) (.type "BaseException") = some true)
    (t_CodecError : PySem.W.typeIn K (.ref e_CodecError) = some (.type "type"))
    (g_Truncated : PySem.W.nsIn K mainGlobals "Truncated" = some (some (.ref e_Truncated)))
    (x_Truncated : PySem.W.excIn K e_Truncated [.type "ValueError", .type "Exception", .type "BaseException", .type "object"] "ValueError.__new__" = true)
    (k_Truncated : PySem.W.keepIn K (.ref e_Truncated) = true)
    (s_Truncated : PySem.W.subIn K (.ref e_Truncated) (.type "BaseException") = some true)
    (t_Truncated : PySem.W.typeIn K (.ref e_Truncated) = some (.type "type"))
    (hx_Truncated : PySem.W.hasDictIn K e_Truncated = true)
    (su_Truncated : PySem.W.subIn K (.ref e_Truncated) (.ref e_Truncated) = some true)
    (g_Malformed : PySem.W.nsIn K mainGlobals "Malformed" = some (some (.ref e_Malformed)))
    (x_Malformed : PySem.W.excIn K e_Malformed [.type "ValueError", .type "Exception", .type "BaseException", .type "object"] "ValueError.__new__" = true)
    (k_Malformed : PySem.W.keepIn K (.ref e_Malformed) = true)
    (s_Malformed : PySem.W.subIn K (.ref e_Malformed) (.type "BaseException") = some true)
    (t_Malformed : PySem.W.typeIn K (.ref e_Malformed) = some (.type "type"))
    (hx_Malformed : PySem.W.hasDictIn K e_Malformed = true)
    (su_Malformed : PySem.W.subIn K (.ref e_Malformed) (.ref e_Malformed) = some true)
    (g_NotAValue : PySem.W.nsIn K mainGlobals "NotAValue" = some (some (.ref e_NotAValue)))
    (x_NotAValue : PySem.W.excIn K e_NotAValue [.type "ValueError", .type "Exception", .type "BaseException", .type "object"] "ValueError.__new__" = true)
    (k_NotAValue : PySem.W.keepIn K (.ref e_NotAValue) = true)
    (s_NotAValue : PySem.W.subIn K (.ref e_NotAValue) (.type "BaseException") = some true)
    (t_NotAValue : PySem.W.typeIn K (.ref e_NotAValue) = some (.type "type"))
    (sb_Truncated_Truncated : PySem.W.subIn K (.ref e_Truncated) (.ref e_Truncated) = some true)
    (sb_Malformed_Truncated : PySem.W.subIn K (.ref e_Malformed) (.ref e_Truncated) = some false)
    (sb_Malformed_Malformed : PySem.W.subIn K (.ref e_Malformed) (.ref e_Malformed) = some true)
    (Xhg_Truncated : PySem.W.findIn K (.ref e_Truncated) "__getattribute__" = some (some (.builtin "BaseException.__getattribute__")))
    (Xhk_Truncated : PySem.W.findIn K (.ref e_Truncated) "__getattr__" = some none)
    (Xhs_Truncated : PySem.W.subIn K (.ref e_Truncated) (.type "BaseException") = some true)
    (Xhd_Truncated : PySem.W.hasDictIn K e_Truncated = true)
    (Xha_Truncated : PySem.W.findIn K (.ref e_Truncated) "__class__" = some (some (.builtin "object.__class__")))
    (Xhn_Truncated : PySem.W.specialIn K (.builtin "object.__class__") "__get__" = some (some (.builtin "getset_descriptor.__get__")))
    (Xht_Truncated : PySem.W.takesIn K (.builtin "object.__class__") = some true)
    (Xhm_Truncated : PySem.W.mroIn K e_Truncated (.type "object") = some true)
    (y_Truncated_CodecError : PySem.W.kitOne K (.ref e_Truncated) (.ref e_CodecError) = some true)
    (y_Truncated_Malformed : PySem.W.kitOne K (.ref e_Truncated) (.ref e_Malformed) = some false)
    (Xhg_Malformed : PySem.W.findIn K (.ref e_Malformed) "__getattribute__" = some (some (.builtin "BaseException.__getattribute__")))
    (Xhk_Malformed : PySem.W.findIn K (.ref e_Malformed) "__getattr__" = some none)
    (Xhs_Malformed : PySem.W.subIn K (.ref e_Malformed) (.type "BaseException") = some true)
    (Xhd_Malformed : PySem.W.hasDictIn K e_Malformed = true)
    (Xha_Malformed : PySem.W.findIn K (.ref e_Malformed) "__class__" = some (some (.builtin "object.__class__")))
    (Xhn_Malformed : PySem.W.specialIn K (.builtin "object.__class__") "__get__" = some (some (.builtin "getset_descriptor.__get__")))
    (Xht_Malformed : PySem.W.takesIn K (.builtin "object.__class__") = some true)
    (Xhm_Malformed : PySem.W.mroIn K e_Malformed (.type "object") = some true)
    (y_Malformed_CodecError : PySem.W.kitOne K (.ref e_Malformed) (.ref e_CodecError) = some true)
    (g_has_plain_characters : PySem.W.nsIn K mainGlobals "has_plain_characters" = some (some (.ref f_has_plain_characters)))
    (l_has_plain_characters : K.lookup f_has_plain_characters = some ⟨oc_has_plain_characters, od_has_plain_characters, .func (PySem.W.fnOf "has_plain_characters" "has_plain_characters" (defArgs s_has_plain_characters) (defBody s_has_plain_characters) (defScope s_has_plain_characters) .none kV_has_plain_characters dc_has_plain_characters pm_has_plain_characters an_has_plain_characters cd_has_plain_characters ct_has_plain_characters), sl_has_plain_characters⟩)
    (c_has_plain_characters : PySem.W.codeIn K cd_has_plain_characters "has_plain_characters" = true)
    (k_has_plain_characters : PySem.W.keepIn K (.ref f_has_plain_characters) = true)
    (g_put_number : PySem.W.nsIn K mainGlobals "put_number" = some (some (.ref f_put_number)))
    (l_put_number : K.lookup f_put_number = some ⟨oc_put_number, od_put_number, .func (PySem.W.fnOf "put_number" "put_number" (defArgs s_put_number) (defBody s_put_number) (defScope s_put_number) .none kV_put_number dc_put_number pm_put_number an_put_number cd_put_number ct_put_number), sl_put_number⟩)
    (c_put_number : PySem.W.codeIn K cd_put_number "put_number" = true)
    (k_put_number : PySem.W.keepIn K (.ref f_put_number) = true)
    (g_take_number : PySem.W.nsIn K mainGlobals "take_number" = some (some (.ref f_take_number)))
    (l_take_number : K.lookup f_take_number = some ⟨oc_take_number, od_take_number, .func (PySem.W.fnOf "take_number" "take_number" (defArgs s_take_number) (defBody s_take_number) (defScope s_take_number) .none kV_take_number dc_take_number pm_take_number an_take_number cd_take_number ct_take_number), sl_take_number⟩)
    (c_take_number : PySem.W.codeIn K cd_take_number "take_number" = true)
    (k_take_number : PySem.W.keepIn K (.ref f_take_number) = true)
    (g_is_value : PySem.W.nsIn K mainGlobals "is_value" = some (some (.ref f_is_value)))
    (l_is_value : K.lookup f_is_value = some ⟨oc_is_value, od_is_value, .func (PySem.W.fnOf "is_value" "is_value" (defArgs s_is_value) (defBody s_is_value) (defScope s_is_value) .none kV_is_value dc_is_value pm_is_value an_is_value cd_is_value ct_is_value), sl_is_value⟩)
    (c_is_value : PySem.W.codeIn K cd_is_value "is_value" = true)
    (k_is_value : PySem.W.keepIn K (.ref f_is_value) = true)
    (g__is_value_within : PySem.W.nsIn K mainGlobals "_is_value_within" = some (some (.ref f__is_value_within)))
    (l__is_value_within : K.lookup f__is_value_within = some ⟨oc__is_value_within, od__is_value_within, .func (PySem.W.fnOf "_is_value_within" "_is_value_within" (defArgs s__is_value_within) (defBody s__is_value_within) (defScope s__is_value_within) .none kV__is_value_within dc__is_value_within pm__is_value_within an__is_value_within cd__is_value_within ct__is_value_within), sl__is_value_within⟩)
    (c__is_value_within : PySem.W.codeIn K cd__is_value_within "_is_value_within" = true)
    (k__is_value_within : PySem.W.keepIn K (.ref f__is_value_within) = true)
    (g_pack : PySem.W.nsIn K mainGlobals "pack" = some (some (.ref f_pack)))
    (l_pack : K.lookup f_pack = some ⟨oc_pack, od_pack, .func (PySem.W.fnOf "pack" "pack" (defArgs s_pack) (defBody s_pack) (defScope s_pack) .none kV_pack dc_pack pm_pack an_pack cd_pack ct_pack), sl_pack⟩)
    (c_pack : PySem.W.codeIn K cd_pack "pack" = true)
    (k_pack : PySem.W.keepIn K (.ref f_pack) = true)
    (g__packed : PySem.W.nsIn K mainGlobals "_packed" = some (some (.ref f__packed)))
    (l__packed : K.lookup f__packed = some ⟨oc__packed, od__packed, .func (PySem.W.fnOf "_packed" "_packed" (defArgs s__packed) (defBody s__packed) (defScope s__packed) .none kV__packed dc__packed pm__packed an__packed cd__packed ct__packed), sl__packed⟩)
    (c__packed : PySem.W.codeIn K cd__packed "_packed" = true)
    (k__packed : PySem.W.keepIn K (.ref f__packed) = true)
    (g_unpack : PySem.W.nsIn K mainGlobals "unpack" = some (some (.ref f_unpack)))
    (l_unpack : K.lookup f_unpack = some ⟨oc_unpack, od_unpack, .func (PySem.W.fnOf "unpack" "unpack" (defArgs s_unpack) (defBody s_unpack) (defScope s_unpack) .none kV_unpack dc_unpack pm_unpack an_unpack cd_unpack ct_unpack), sl_unpack⟩)
    (c_unpack : PySem.W.codeIn K cd_unpack "unpack" = true)
    (k_unpack : PySem.W.keepIn K (.ref f_unpack) = true)
    (g__take_value : PySem.W.nsIn K mainGlobals "_take_value" = some (some (.ref f__take_value)))
    (l__take_value : K.lookup f__take_value = some ⟨oc__take_value, od__take_value, .func (PySem.W.fnOf "_take_value" "_take_value" (defArgs s__take_value) (defBody s__take_value) (defScope s__take_value) .none kV__take_value dc__take_value pm__take_value an__take_value cd__take_value ct__take_value), sl__take_value⟩)
    (c__take_value : PySem.W.codeIn K cd__take_value "_take_value" = true)
    (k__take_value : PySem.W.keepIn K (.ref f__take_value) = true)
    (g__checked_integer : PySem.W.nsIn K mainGlobals "_checked_integer" = some (some (.ref f__checked_integer)))
    (l__checked_integer : K.lookup f__checked_integer = some ⟨oc__checked_integer, od__checked_integer, .func (PySem.W.fnOf "_checked_integer" "_checked_integer" (defArgs s__checked_integer) (defBody s__checked_integer) (defScope s__checked_integer) .none kV__checked_integer dc__checked_integer pm__checked_integer an__checked_integer cd__checked_integer ct__checked_integer), sl__checked_integer⟩)
    (c__checked_integer : PySem.W.codeIn K cd__checked_integer "_checked_integer" = true)
    (k__checked_integer : PySem.W.keepIn K (.ref f__checked_integer) = true)
    (g__take_text : PySem.W.nsIn K mainGlobals "_take_text" = some (some (.ref f__take_text)))
    (l__take_text : K.lookup f__take_text = some ⟨oc__take_text, od__take_text, .func (PySem.W.fnOf "_take_text" "_take_text" (defArgs s__take_text) (defBody s__take_text) (defScope s__take_text) .none kV__take_text dc__take_text pm__take_text an__take_text cd__take_text ct__take_text), sl__take_text⟩)
    (c__take_text : PySem.W.codeIn K cd__take_text "_take_text" = true)
    (k__take_text : PySem.W.keepIn K (.ref f__take_text) = true)
    (g__take_members : PySem.W.nsIn K mainGlobals "_take_members" = some (some (.ref f__take_members)))
    (l__take_members : K.lookup f__take_members = some ⟨oc__take_members, od__take_members, .func (PySem.W.fnOf "_take_members" "_take_members" (defArgs s__take_members) (defBody s__take_members) (defScope s__take_members) .none kV__take_members dc__take_members pm__take_members an__take_members cd__take_members ct__take_members), sl__take_members⟩)
    (c__take_members : PySem.W.codeIn K cd__take_members "_take_members" = true)
    (k__take_members : PySem.W.keepIn K (.ref f__take_members) = true)
    (g__law_draws : PySem.W.nsIn K mainGlobals "_law_draws" = some (some (.ref f__law_draws)))
    (l__law_draws : K.lookup f__law_draws = some ⟨oc__law_draws, od__law_draws, .func (PySem.W.fnOf "_law_draws" "_law_draws" (defArgs s__law_draws) (defBody s__law_draws) (defScope s__law_draws) .none kV__law_draws dc__law_draws pm__law_draws an__law_draws cd__law_draws ct__law_draws), sl__law_draws⟩)
    (c__law_draws : PySem.W.codeIn K cd__law_draws "_law_draws" = true)
    (k__law_draws : PySem.W.keepIn K (.ref f__law_draws) = true)
    (g__law_char : PySem.W.nsIn K mainGlobals "_law_char" = some (some (.ref f__law_char)))
    (l__law_char : K.lookup f__law_char = some ⟨oc__law_char, od__law_char, .func (PySem.W.fnOf "_law_char" "_law_char" (defArgs s__law_char) (defBody s__law_char) (defScope s__law_char) .none kV__law_char dc__law_char pm__law_char an__law_char cd__law_char ct__law_char), sl__law_char⟩)
    (c__law_char : PySem.W.codeIn K cd__law_char "_law_char" = true)
    (k__law_char : PySem.W.keepIn K (.ref f__law_char) = true)
    (g__law_integer : PySem.W.nsIn K mainGlobals "_law_integer" = some (some (.ref f__law_integer)))
    (l__law_integer : K.lookup f__law_integer = some ⟨oc__law_integer, od__law_integer, .func (PySem.W.fnOf "_law_integer" "_law_integer" (defArgs s__law_integer) (defBody s__law_integer) (defScope s__law_integer) .none kV__law_integer dc__law_integer pm__law_integer an__law_integer cd__law_integer ct__law_integer), sl__law_integer⟩)
    (c__law_integer : PySem.W.codeIn K cd__law_integer "_law_integer" = true)
    (k__law_integer : PySem.W.keepIn K (.ref f__law_integer) = true)
    (g__law_leaf : PySem.W.nsIn K mainGlobals "_law_leaf" = some (some (.ref f__law_leaf)))
    (l__law_leaf : K.lookup f__law_leaf = some ⟨oc__law_leaf, od__law_leaf, .func (PySem.W.fnOf "_law_leaf" "_law_leaf" (defArgs s__law_leaf) (defBody s__law_leaf) (defScope s__law_leaf) .none kV__law_leaf dc__law_leaf pm__law_leaf an__law_leaf cd__law_leaf ct__law_leaf), sl__law_leaf⟩)
    (c__law_leaf : PySem.W.codeIn K cd__law_leaf "_law_leaf" = true)
    (k__law_leaf : PySem.W.keepIn K (.ref f__law_leaf) = true)
    (g__law_value : PySem.W.nsIn K mainGlobals "_law_value" = some (some (.ref f__law_value)))
    (l__law_value : K.lookup f__law_value = some ⟨oc__law_value, od__law_value, .func (PySem.W.fnOf "_law_value" "_law_value" (defArgs s__law_value) (defBody s__law_value) (defScope s__law_value) .none kV__law_value dc__law_value pm__law_value an__law_value cd__law_value ct__law_value), sl__law_value⟩)
    (c__law_value : PySem.W.codeIn K cd__law_value "_law_value" = true)
    (k__law_value : PySem.W.keepIn K (.ref f__law_value) = true)
    (g__law_number : PySem.W.nsIn K mainGlobals "_law_number" = some (some (.ref f__law_number)))
    (l__law_number : K.lookup f__law_number = some ⟨oc__law_number, od__law_number, .func (PySem.W.fnOf "_law_number" "_law_number" (defArgs s__law_number) (defBody s__law_number) (defScope s__law_number) .none kV__law_number dc__law_number pm__law_number an__law_number cd__law_number ct__law_number), sl__law_number⟩)
    (c__law_number : PySem.W.codeIn K cd__law_number "_law_number" = true)
    (k__law_number : PySem.W.keepIn K (.ref f__law_number) = true)
    (g__law_packed : PySem.W.nsIn K mainGlobals "_law_packed" = some (some (.ref f__law_packed)))
    (l__law_packed : K.lookup f__law_packed = some ⟨oc__law_packed, od__law_packed, .func (PySem.W.fnOf "_law_packed" "_law_packed" (defArgs s__law_packed) (defBody s__law_packed) (defScope s__law_packed) .none kV__law_packed dc__law_packed pm__law_packed an__law_packed cd__law_packed ct__law_packed), sl__law_packed⟩)
    (c__law_packed : PySem.W.codeIn K cd__law_packed "_law_packed" = true)
    (k__law_packed : PySem.W.keepIn K (.ref f__law_packed) = true)
    (g__law_take_number : PySem.W.nsIn K mainGlobals "_law_take_number" = some (some (.ref f__law_take_number)))
    (l__law_take_number : K.lookup f__law_take_number = some ⟨oc__law_take_number, od__law_take_number, .func (PySem.W.fnOf "_law_take_number" "_law_take_number" (defArgs s__law_take_number) (defBody s__law_take_number) (defScope s__law_take_number) .none kV__law_take_number dc__law_take_number pm__law_take_number an__law_take_number cd__law_take_number ct__law_take_number), sl__law_take_number⟩)
    (c__law_take_number : PySem.W.codeIn K cd__law_take_number "_law_take_number" = true)
    (k__law_take_number : PySem.W.keepIn K (.ref f__law_take_number) = true)
    (g__law_take_text : PySem.W.nsIn K mainGlobals "_law_take_text" = some (some (.ref f__law_take_text)))
    (l__law_take_text : K.lookup f__law_take_text = some ⟨oc__law_take_text, od__law_take_text, .func (PySem.W.fnOf "_law_take_text" "_law_take_text" (defArgs s__law_take_text) (defBody s__law_take_text) (defScope s__law_take_text) .none kV__law_take_text dc__law_take_text pm__law_take_text an__law_take_text cd__law_take_text ct__law_take_text), sl__law_take_text⟩)
    (c__law_take_text : PySem.W.codeIn K cd__law_take_text "_law_take_text" = true)
    (k__law_take_text : PySem.W.keepIn K (.ref f__law_take_text) = true)
    (g__law_read : PySem.W.nsIn K mainGlobals "_law_read" = some (some (.ref f__law_read)))
    (l__law_read : K.lookup f__law_read = some ⟨oc__law_read, od__law_read, .func (PySem.W.fnOf "_law_read" "_law_read" (defArgs s__law_read) (defBody s__law_read) (defScope s__law_read) .none kV__law_read dc__law_read pm__law_read an__law_read cd__law_read ct__law_read), sl__law_read⟩)
    (c__law_read : PySem.W.codeIn K cd__law_read "_law_read" = true)
    (k__law_read : PySem.W.keepIn K (.ref f__law_read) = true)
    (g__law_limit : PySem.W.nsIn K mainGlobals "_law_limit" = some (some (.ref f__law_limit)))
    (l__law_limit : K.lookup f__law_limit = some ⟨oc__law_limit, od__law_limit, .func (PySem.W.fnOf "_law_limit" "_law_limit" (defArgs s__law_limit) (defBody s__law_limit) (defScope s__law_limit) .none kV__law_limit dc__law_limit pm__law_limit an__law_limit cd__law_limit ct__law_limit), sl__law_limit⟩)
    (c__law_limit : PySem.W.codeIn K cd__law_limit "_law_limit" = true)
    (k__law_limit : PySem.W.keepIn K (.ref f__law_limit) = true)
    (g__law_right : PySem.W.nsIn K mainGlobals "_law_right" = some (some (.ref f__law_right)))
    (l__law_right : K.lookup f__law_right = some ⟨oc__law_right, od__law_right, .func (PySem.W.fnOf "_law_right" "_law_right" (defArgs s__law_right) (defBody s__law_right) (defScope s__law_right) .none kV__law_right dc__law_right pm__law_right an__law_right cd__law_right ct__law_right), sl__law_right⟩)
    (c__law_right : PySem.W.codeIn K cd__law_right "_law_right" = true)
    (k__law_right : PySem.W.keepIn K (.ref f__law_right) = true)
    (g__law_replaced : PySem.W.nsIn K mainGlobals "_law_replaced" = some (some (.ref f__law_replaced)))
    (l__law_replaced : K.lookup f__law_replaced = some ⟨oc__law_replaced, od__law_replaced, .func (PySem.W.fnOf "_law_replaced" "_law_replaced" (defArgs s__law_replaced) (defBody s__law_replaced) (defScope s__law_replaced) .none kV__law_replaced dc__law_replaced pm__law_replaced an__law_replaced cd__law_replaced ct__law_replaced), sl__law_replaced⟩)
    (c__law_replaced : PySem.W.codeIn K cd__law_replaced "_law_replaced" = true)
    (k__law_replaced : PySem.W.keepIn K (.ref f__law_replaced) = true)
    (g_law : PySem.W.nsIn K mainGlobals "law" = some (some (.ref f_law)))
    (l_law : K.lookup f_law = some ⟨oc_law, od_law, .func (PySem.W.fnOf "law" "law" (defArgs s_law) (defBody s_law) (defScope s_law) .none kV_law dc_law pm_law an_law cd_law ct_law), sl_law⟩)
    (c_law : PySem.W.codeIn K cd_law "law" = true)
    (k_law : PySem.W.keepIn K (.ref f_law) = true)
    (c_SPACE : PySem.W.nsIn K mainGlobals "SPACE" = some (some (.int 32 t_SPACE)))
    (c_PERCENT : PySem.W.nsIn K mainGlobals "PERCENT" = some (some (.int 37 t_PERCENT)))
    (c_TILDE : PySem.W.nsIn K mainGlobals "TILDE" = some (some (.int 126 t_TILDE)))
    (c_MOST_BYTES : PySem.W.nsIn K mainGlobals "MOST_BYTES" = some (some (.int 500 t_MOST_BYTES)))
    (c_MOST_BITS : PySem.W.nsIn K mainGlobals "MOST_BITS" = some (some (.int 3000 t_MOST_BITS)))
    (c_MOST_LENGTH : PySem.W.nsIn K mainGlobals "MOST_LENGTH" = some (some (.int 60000 t_MOST_LENGTH)))
    (c_MOST_DEPTH : PySem.W.nsIn K mainGlobals "MOST_DEPTH" = some (some (.int 20 t_MOST_DEPTH)))
    (c_FALSE_TAG : PySem.W.nsIn K mainGlobals "FALSE_TAG" = some (some (.int 1 t_FALSE_TAG)))
    (c_TRUE_TAG : PySem.W.nsIn K mainGlobals "TRUE_TAG" = some (some (.int 2 t_TRUE_TAG)))
    (c_NATURAL_TAG : PySem.W.nsIn K mainGlobals "NATURAL_TAG" = some (some (.int 3 t_NATURAL_TAG)))
    (c_NEGATIVE_TAG : PySem.W.nsIn K mainGlobals "NEGATIVE_TAG" = some (some (.int 4 t_NEGATIVE_TAG)))
    (c_TEXT_TAG : PySem.W.nsIn K mainGlobals "TEXT_TAG" = some (some (.int 5 t_TEXT_TAG)))
    (c_TUPLE_TAG : PySem.W.nsIn K mainGlobals "TUPLE_TAG" = some (some (.int 6 t_TUPLE_TAG)))
    (c_CONSTANTS : PySem.W.nsIn K mainGlobals "CONSTANTS" = some (some (.ref ca_CONSTANTS)))
    (q_CONSTANTS : K.lookup ca_CONSTANTS = some ⟨.type "tuple", cd0_CONSTANTS, .seq cv_CONSTANTS.toArray cn_CONSTANTS, cs_CONSTANTS⟩)
    (v_CONSTANTS : Vals [.non, (.bl false), (.bl true)] cv_CONSTANTS)
    (c_CHARACTERS : PySem.W.nsIn K mainGlobals "CHARACTERS" = some (some (.str " !\"#$ &'()*+,-./0123456789:;<=>?@ABCDEFGHIJKLMNOPQRSTUVWXYZ[\\]^_`abcdefghijklmnopqrstuvwxyz{|}~" t_CHARACTERS)))
    (c_PERCENT_BYTE : PySem.W.nsIn K mainGlobals "PERCENT_BYTE" = some (some (.int 5 t_PERCENT_BYTE)))
    (n_range : PySem.W.nsIn K mainGlobals "range" = some none)
    (n_min : PySem.W.nsIn K mainGlobals "min" = some none)
    (n_len : PySem.W.nsIn K mainGlobals "len" = some none)
    (n_ord : PySem.W.nsIn K mainGlobals "ord" = some none)
    (n_isinstance : PySem.W.nsIn K mainGlobals "isinstance" = some none)
    (n_bool : PySem.W.nsIn K mainGlobals "bool" = some none)
    (n_int : PySem.W.nsIn K mainGlobals "int" = some none)
    (n_str : PySem.W.nsIn K mainGlobals "str" = some none)
    (n_tuple : PySem.W.nsIn K mainGlobals "tuple" = some none)
    (n_abs : PySem.W.nsIn K mainGlobals "abs" = some none)
    (n_list : PySem.W.nsIn K mainGlobals "list" = some none) :
    ∃ fd : FuncData, (∀ (s : Shared) (v : Value), BindsTo s fd ⟨[v], []⟩ [("script", v)]) ∧ ∀ base : Heap, K.In base → base.Ns mainGlobals mg → FnOk l.prog w K mg base CX0 46 fa fd ["script"] (sp_law K) := by
  have e : fa = f_law := by
    have z := hfa.symm.trans (PySem.W.mg_of X G g_law)
    injection z with z
    injection z
  rw [e]
  let T : TX K mg := ⟨e_MajordomoError, (PySem.W.mg_of X G g_MajordomoError), x_MajordomoError, k_MajordomoError, s_MajordomoError, t_MajordomoError, e_CodecError, (PySem.W.mg_of X G g_CodecError), x_CodecError, k_CodecError, s_CodecError, t_CodecError, e_Truncated, (PySem.W.mg_of X G g_Truncated), x_Truncated, k_Truncated, s_Truncated, t_Truncated, (PySem.W.exm_ref s_Truncated hx_Truncated t_Truncated su_Truncated), e_Malformed, (PySem.W.mg_of X G g_Malformed), x_Malformed, k_Malformed, s_Malformed, t_Malformed, (PySem.W.exm_ref s_Malformed hx_Malformed t_Malformed su_Malformed), e_NotAValue, (PySem.W.mg_of X G g_NotAValue), x_NotAValue, k_NotAValue, s_NotAValue, t_NotAValue, (PySem.W.exm_ref s_Truncated hx_Truncated t_Truncated sb_Truncated_Truncated), (PySem.W.exm_ref s_Truncated hx_Truncated t_Truncated sb_Malformed_Truncated), (PySem.W.exm_ref s_Malformed hx_Malformed t_Malformed sb_Malformed_Malformed), ⟨Xhg_Truncated, Xhk_Truncated, Xhs_Truncated, Xhd_Truncated, Xha_Truncated, Xhn_Truncated, Xht_Truncated, Xhm_Truncated⟩, y_Truncated_CodecError, y_Truncated_Malformed, ⟨Xhg_Malformed, Xhk_Malformed, Xhs_Malformed, Xhd_Malformed, Xha_Malformed, Xhn_Malformed, Xht_Malformed, Xhm_Malformed⟩, y_Malformed_CodecError, f_has_plain_characters, (PySem.W.fnOf "has_plain_characters" "has_plain_characters" (defArgs s_has_plain_characters) (defBody s_has_plain_characters) (defScope s_has_plain_characters) .none kV_has_plain_characters dc_has_plain_characters pm_has_plain_characters an_has_plain_characters cd_has_plain_characters ct_has_plain_characters), (fun_mk (st := s_has_plain_characters) l_has_plain_characters c_has_plain_characters k_has_plain_characters), ((fun_mk (st := s_has_plain_characters) l_has_plain_characters c_has_plain_characters k_has_plain_characters).binds (ps := ["text"]) fun _ _ _ _ _ _ us hl => match us, hl with | [_], _ => rfl), (PySem.W.mg_of X G g_has_plain_characters), f_put_number, (PySem.W.fnOf "put_number" "put_number" (defArgs s_put_number) (defBody s_put_number) (defScope s_put_number) .none kV_put_number dc_put_number pm_put_number an_put_number cd_put_number ct_put_number), (fun_mk (st := s_put_number) l_put_number c_put_number k_put_number), ((fun_mk (st := s_put_number) l_put_number c_put_number k_put_number).binds (ps := ["number"]) fun _ _ _ _ _ _ us hl => match us, hl with | [_], _ => rfl), (PySem.W.mg_of X G g_put_number), f_take_number, (PySem.W.fnOf "take_number" "take_number" (defArgs s_take_number) (defBody s_take_number) (defScope s_take_number) .none kV_take_number dc_take_number pm_take_number an_take_number cd_take_number ct_take_number), (fun_mk (st := s_take_number) l_take_number c_take_number k_take_number), ((fun_mk (st := s_take_number) l_take_number c_take_number k_take_number).binds (ps := ["row", "index"]) fun _ _ _ _ _ _ us hl => match us, hl with | [_, _], _ => rfl), (PySem.W.mg_of X G g_take_number), f_is_value, (PySem.W.fnOf "is_value" "is_value" (defArgs s_is_value) (defBody s_is_value) (defScope s_is_value) .none kV_is_value dc_is_value pm_is_value an_is_value cd_is_value ct_is_value), (fun_mk (st := s_is_value) l_is_value c_is_value k_is_value), ((fun_mk (st := s_is_value) l_is_value c_is_value k_is_value).binds (ps := ["value"]) fun _ _ _ _ _ _ us hl => match us, hl with | [_], _ => rfl), (PySem.W.mg_of X G g_is_value), f__is_value_within, (PySem.W.fnOf "_is_value_within" "_is_value_within" (defArgs s__is_value_within) (defBody s__is_value_within) (defScope s__is_value_within) .none kV__is_value_within dc__is_value_within pm__is_value_within an__is_value_within cd__is_value_within ct__is_value_within), (fun_mk (st := s__is_value_within) l__is_value_within c__is_value_within k__is_value_within), ((fun_mk (st := s__is_value_within) l__is_value_within c__is_value_within k__is_value_within).binds (ps := ["value", "depth"]) fun _ _ _ _ _ _ us hl => match us, hl with | [_, _], _ => rfl), (PySem.W.mg_of X G g__is_value_within), f_pack, (PySem.W.fnOf "pack" "pack" (defArgs s_pack) (defBody s_pack) (defScope s_pack) .none kV_pack dc_pack pm_pack an_pack cd_pack ct_pack), (fun_mk (st := s_pack) l_pack c_pack k_pack), ((fun_mk (st := s_pack) l_pack c_pack k_pack).binds (ps := ["value"]) fun _ _ _ _ _ _ us hl => match us, hl with | [_], _ => rfl), (PySem.W.mg_of X G g_pack), f__packed, (PySem.W.fnOf "_packed" "_packed" (defArgs s__packed) (defBody s__packed) (defScope s__packed) .none kV__packed dc__packed pm__packed an__packed cd__packed ct__packed), (fun_mk (st := s__packed) l__packed c__packed k__packed), ((fun_mk (st := s__packed) l__packed c__packed k__packed).binds (ps := ["value"]) fun _ _ _ _ _ _ us hl => match us, hl with | [_], _ => rfl), (PySem.W.mg_of X G g__packed), f_unpack, (PySem.W.fnOf "unpack" "unpack" (defArgs s_unpack) (defBody s_unpack) (defScope s_unpack) .none kV_unpack dc_unpack pm_unpack an_unpack cd_unpack ct_unpack), (fun_mk (st := s_unpack) l_unpack c_unpack k_unpack), ((fun_mk (st := s_unpack) l_unpack c_unpack k_unpack).binds (ps := ["row"]) fun _ _ _ _ _ _ us hl => match us, hl with | [_], _ => rfl), (PySem.W.mg_of X G g_unpack), f__take_value, (PySem.W.fnOf "_take_value" "_take_value" (defArgs s__take_value) (defBody s__take_value) (defScope s__take_value) .none kV__take_value dc__take_value pm__take_value an__take_value cd__take_value ct__take_value), (fun_mk (st := s__take_value) l__take_value c__take_value k__take_value), ((fun_mk (st := s__take_value) l__take_value c__take_value k__take_value).binds (ps := ["row", "index", "depth"]) fun _ _ _ _ _ _ us hl => match us, hl with | [_, _, _], _ => rfl), (PySem.W.mg_of X G g__take_value), f__checked_integer, (PySem.W.fnOf "_checked_integer" "_checked_integer" (defArgs s__checked_integer) (defBody s__checked_integer) (defScope s__checked_integer) .none kV__checked_integer dc__checked_integer pm__checked_integer an__checked_integer cd__checked_integer ct__checked_integer), (fun_mk (st := s__checked_integer) l__checked_integer c__checked_integer k__checked_integer), ((fun_mk (st := s__checked_integer) l__checked_integer c__checked_integer k__checked_integer).binds (ps := ["number"]) fun _ _ _ _ _ _ us hl => match us, hl with | [_], _ => rfl), (PySem.W.mg_of X G g__checked_integer), f__take_text, (PySem.W.fnOf "_take_text" "_take_text" (defArgs s__take_text) (defBody s__take_text) (defScope s__take_text) .none kV__take_text dc__take_text pm__take_text an__take_text cd__take_text ct__take_text), (fun_mk (st := s__take_text) l__take_text c__take_text k__take_text), ((fun_mk (st := s__take_text) l__take_text c__take_text k__take_text).binds (ps := ["row", "index", "length"]) fun _ _ _ _ _ _ us hl => match us, hl with | [_, _, _], _ => rfl), (PySem.W.mg_of X G g__take_text), f__take_members, (PySem.W.fnOf "_take_members" "_take_members" (defArgs s__take_members) (defBody s__take_members) (defScope s__take_members) .none kV__take_members dc__take_members pm__take_members an__take_members cd__take_members ct__take_members), (fun_mk (st := s__take_members) l__take_members c__take_members k__take_members), ((fun_mk (st := s__take_members) l__take_members c__take_members k__take_members).binds (ps := ["row", "index", "length", "depth"]) fun _ _ _ _ _ _ us hl => match us, hl with | [_, _, _, _], _ => rfl), (PySem.W.mg_of X G g__take_members), f__law_draws, (PySem.W.fnOf "_law_draws" "_law_draws" (defArgs s__law_draws) (defBody s__law_draws) (defScope s__law_draws) .none kV__law_draws dc__law_draws pm__law_draws an__law_draws cd__law_draws ct__law_draws), (fun_mk (st := s__law_draws) l__law_draws c__law_draws k__law_draws), ((fun_mk (st := s__law_draws) l__law_draws c__law_draws k__law_draws).binds (ps := ["script", "many"]) fun _ _ _ _ _ _ us hl => match us, hl with | [_, _], _ => rfl), (PySem.W.mg_of X G g__law_draws), f__law_char, (PySem.W.fnOf "_law_char" "_law_char" (defArgs s__law_char) (defBody s__law_char) (defScope s__law_char) .none kV__law_char dc__law_char pm__law_char an__law_char cd__law_char ct__law_char), (fun_mk (st := s__law_char) l__law_char c__law_char k__law_char), ((fun_mk (st := s__law_char) l__law_char c__law_char k__law_char).binds (ps := ["draw"]) fun _ _ _ _ _ _ us hl => match us, hl with | [_], _ => rfl), (PySem.W.mg_of X G g__law_char), f__law_integer, (PySem.W.fnOf "_law_integer" "_law_integer" (defArgs s__law_integer) (defBody s__law_integer) (defScope s__law_integer) .none kV__law_integer dc__law_integer pm__law_integer an__law_integer cd__law_integer ct__law_integer), (fun_mk (st := s__law_integer) l__law_integer c__law_integer k__law_integer), ((fun_mk (st := s__law_integer) l__law_integer c__law_integer k__law_integer).binds (ps := ["draws"]) fun _ _ _ _ _ _ us hl => match us, hl with | [_], _ => rfl), (PySem.W.mg_of X G g__law_integer), f__law_leaf, (PySem.W.fnOf "_law_leaf" "_law_leaf" (defArgs s__law_leaf) (defBody s__law_leaf) (defScope s__law_leaf) .none kV__law_leaf dc__law_leaf pm__law_leaf an__law_leaf cd__law_leaf ct__law_leaf), (fun_mk (st := s__law_leaf) l__law_leaf c__law_leaf k__law_leaf), ((fun_mk (st := s__law_leaf) l__law_leaf c__law_leaf k__law_leaf).binds (ps := ["draws"]) fun _ _ _ _ _ _ us hl => match us, hl with | [_], _ => rfl), (PySem.W.mg_of X G g__law_leaf), f__law_value, (PySem.W.fnOf "_law_value" "_law_value" (defArgs s__law_value) (defBody s__law_value) (defScope s__law_value) .none kV__law_value dc__law_value pm__law_value an__law_value cd__law_value ct__law_value), (fun_mk (st := s__law_value) l__law_value c__law_value k__law_value), ((fun_mk (st := s__law_value) l__law_value c__law_value k__law_value).binds (ps := ["draws"]) fun _ _ _ _ _ _ us hl => match us, hl with | [_], _ => rfl), (PySem.W.mg_of X G g__law_value), f__law_number, (PySem.W.fnOf "_law_number" "_law_number" (defArgs s__law_number) (defBody s__law_number) (defScope s__law_number) .none kV__law_number dc__law_number pm__law_number an__law_number cd__law_number ct__law_number), (fun_mk (st := s__law_number) l__law_number c__law_number k__law_number), ((fun_mk (st := s__law_number) l__law_number c__law_number k__law_number).binds (ps := ["number"]) fun _ _ _ _ _ _ us hl => match us, hl with | [_], _ => rfl), (PySem.W.mg_of X G g__law_number), f__law_packed, (PySem.W.fnOf "_law_packed" "_law_packed" (defArgs s__law_packed) (defBody s__law_packed) (defScope s__law_packed) .none kV__law_packed dc__law_packed pm__law_packed an__law_packed cd__law_packed ct__law_packed), (fun_mk (st := s__law_packed) l__law_packed c__law_packed k__law_packed), ((fun_mk (st := s__law_packed) l__law_packed c__law_packed k__law_packed).binds (ps := ["value"]) fun _ _ _ _ _ _ us hl => match us, hl with | [_], _ => rfl), (PySem.W.mg_of X G g__law_packed), f__law_take_number, (PySem.W.fnOf "_law_take_number" "_law_take_number" (defArgs s__law_take_number) (defBody s__law_take_number) (defScope s__law_take_number) .none kV__law_take_number dc__law_take_number pm__law_take_number an__law_take_number cd__law_take_number ct__law_take_number), (fun_mk (st := s__law_take_number) l__law_take_number c__law_take_number k__law_take_number), ((fun_mk (st := s__law_take_number) l__law_take_number c__law_take_number k__law_take_number).binds (ps := ["row", "index"]) fun _ _ _ _ _ _ us hl => match us, hl with | [_, _], _ => rfl), (PySem.W.mg_of X G g__law_take_number), f__law_take_text, (PySem.W.fnOf "_law_take_text" "_law_take_text" (defArgs s__law_take_text) (defBody s__law_take_text) (defScope s__law_take_text) .none kV__law_take_text dc__law_take_text pm__law_take_text an__law_take_text cd__law_take_text ct__law_take_text), (fun_mk (st := s__law_take_text) l__law_take_text c__law_take_text k__law_take_text), ((fun_mk (st := s__law_take_text) l__law_take_text c__law_take_text k__law_take_text).binds (ps := ["row", "index", "length"]) fun _ _ _ _ _ _ us hl => match us, hl with | [_, _, _], _ => rfl), (PySem.W.mg_of X G g__law_take_text), f__law_read, (PySem.W.fnOf "_law_read" "_law_read" (defArgs s__law_read) (defBody s__law_read) (defScope s__law_read) .none kV__law_read dc__law_read pm__law_read an__law_read cd__law_read ct__law_read), (fun_mk (st := s__law_read) l__law_read c__law_read k__law_read), ((fun_mk (st := s__law_read) l__law_read c__law_read k__law_read).binds (ps := ["row", "index", "depth"]) fun _ _ _ _ _ _ us hl => match us, hl with | [_, _, _], _ => rfl), (PySem.W.mg_of X G g__law_read), f__law_limit, (PySem.W.fnOf "_law_limit" "_law_limit" (defArgs s__law_limit) (defBody s__law_limit) (defScope s__law_limit) .none kV__law_limit dc__law_limit pm__law_limit an__law_limit cd__law_limit ct__law_limit), (fun_mk (st := s__law_limit) l__law_limit c__law_limit k__law_limit), ((fun_mk (st := s__law_limit) l__law_limit c__law_limit k__law_limit).binds (ps := ["negative"]) fun _ _ _ _ _ _ us hl => match us, hl with | [_], _ => rfl), (PySem.W.mg_of X G g__law_limit), f__law_right, (PySem.W.fnOf "_law_right" "_law_right" (defArgs s__law_right) (defBody s__law_right) (defScope s__law_right) .none kV__law_right dc__law_right pm__law_right an__law_right cd__law_right ct__law_right), (fun_mk (st := s__law_right) l__law_right c__law_right k__law_right), ((fun_mk (st := s__law_right) l__law_right c__law_right k__law_right).binds (ps := ["row"]) fun _ _ _ _ _ _ us hl => match us, hl with | [_], _ => rfl), (PySem.W.mg_of X G g__law_right), f__law_replaced, (PySem.W.fnOf "_law_replaced" "_law_replaced" (defArgs s__law_replaced) (defBody s__law_replaced) (defScope s__law_replaced) .none kV__law_replaced dc__law_replaced pm__law_replaced an__law_replaced cd__law_replaced ct__law_replaced), (fun_mk (st := s__law_replaced) l__law_replaced c__law_replaced k__law_replaced), ((fun_mk (st := s__law_replaced) l__law_replaced c__law_replaced k__law_replaced).binds (ps := ["row", "draws"]) fun _ _ _ _ _ _ us hl => match us, hl with | [_, _], _ => rfl), (PySem.W.mg_of X G g__law_replaced), f_law, (PySem.W.fnOf "law" "law" (defArgs s_law) (defBody s_law) (defScope s_law) .none kV_law dc_law pm_law an_law cd_law ct_law), (fun_mk (st := s_law) l_law c_law k_law), ((fun_mk (st := s_law) l_law c_law k_law).binds (ps := ["script"]) fun _ _ _ _ _ _ us hl => match us, hl with | [_], _ => rfl), (PySem.W.mg_of X G g_law), t_SPACE, (PySem.W.mg_of X G c_SPACE), t_PERCENT, (PySem.W.mg_of X G c_PERCENT), t_TILDE, (PySem.W.mg_of X G c_TILDE), t_MOST_BYTES, (PySem.W.mg_of X G c_MOST_BYTES), t_MOST_BITS, (PySem.W.mg_of X G c_MOST_BITS), t_MOST_LENGTH, (PySem.W.mg_of X G c_MOST_LENGTH), t_MOST_DEPTH, (PySem.W.mg_of X G c_MOST_DEPTH), t_FALSE_TAG, (PySem.W.mg_of X G c_FALSE_TAG), t_TRUE_TAG, (PySem.W.mg_of X G c_TRUE_TAG), t_NATURAL_TAG, (PySem.W.mg_of X G c_NATURAL_TAG), t_NEGATIVE_TAG, (PySem.W.mg_of X G c_NEGATIVE_TAG), t_TEXT_TAG, (PySem.W.mg_of X G c_TEXT_TAG), t_TUPLE_TAG, (PySem.W.mg_of X G c_TUPLE_TAG), ca_CONSTANTS, (PySem.W.mg_of X G c_CONSTANTS), (fun H => Or.inr ⟨_, cv_CONSTANTS.toArray, cn_CONSTANTS, q_CONSTANTS, rfl, rfl, (by rw [List.size_toArray, ← (Vals.length v_CONSTANTS)]; exact (by decide : 3 ≤ sizeLine)), (by simpa using v_CONSTANTS)⟩), t_CHARACTERS, (PySem.W.mg_of X G c_CHARACTERS), t_PERCENT_BYTE, (PySem.W.mg_of X G c_PERCENT_BYTE), (PySem.W.mg_none_of X G n_range), (PySem.W.mg_none_of X G n_min), (PySem.W.mg_none_of X G n_len), (PySem.W.mg_none_of X G n_ord), (PySem.W.mg_none_of X G n_isinstance), (PySem.W.mg_none_of X G n_bool), (PySem.W.mg_none_of X G n_int), (PySem.W.mg_none_of X G n_str), (PySem.W.mg_none_of X G n_tuple), (PySem.W.mg_none_of X G n_abs), (PySem.W.mg_none_of X G n_list)⟩
  exact ⟨T.d_law, fun s v => .of_eq rfl, fun base _ _ => ok_law T⟩
end My
open PySem PySem.W PyProof.Rows
set_option maxHeartbeats 0 in
theorem PySem.Challenge.cw_majordomo_k05_rows_that_hold_no_value_holds : PySem.Challenge.rw_majordomo_k05_rows_that_hold_no_value.Holds := by
  w_on; o_law; k_head; (case hw => w_witness2)
  k_fill
  refine L2.walk_of (l := PySem.Challenge.rw_majordomo_k05_rows_that_hold_no_value) (n := 63) (k := 46) (x := "script") (CX := (fun _ => L2.CX0)) (sp := fun w => My.sp_law _) rfl (by decide) rfl ⟨rfl, by decide, by decide⟩ (fun w h Y => PySem.W.kIn_of Y) ?F (fun _ _ a ns hl _ hS => ⟨a, ns, rfl, hS, hl, fun _ => rfl⟩) (fun _ _ _ _ _ h => h)
  case F =>
    intro w mg fa h KX G hmg
    refine' My.all_mk KX G hmg ?g_MajordomoError ?x_MajordomoError ?k_MajordomoError ?s_MajordomoError ?t_MajordomoError ?g_CodecError ?x_CodecError ?k_CodecError ?s_CodecError ?t_CodecError ?g_Truncated ?x_Truncated ?k_Truncated ?s_Truncated ?t_Truncated ?hx_Truncated ?su_Truncated ?g_Malformed ?x_Malformed ?k_Malformed ?s_Malformed ?t_Malformed ?hx_Malformed ?su_Malformed ?g_NotAValue ?x_NotAValue ?k_NotAValue ?s_NotAValue ?t_NotAValue ?sb_Truncated_Truncated ?sb_Malformed_Truncated ?sb_Malformed_Malformed ?Xhg_Truncated ?Xhk_Truncated ?Xhs_Truncated ?Xhd_Truncated ?Xha_Truncated ?Xhn_Truncated ?Xht_Truncated ?Xhm_Truncated ?y_Truncated_CodecError ?y_Truncated_Malformed ?Xhg_Malformed ?Xhk_Malformed ?Xhs_Malformed ?Xhd_Malformed ?Xha_Malformed ?Xhn_Malformed ?Xht_Malformed ?Xhm_Malformed ?y_Malformed_CodecError ?g_has_plain_characters ?l_has_plain_characters ?c_has_plain_characters ?k_has_plain_characters ?g_put_number ?l_put_number ?c_put_number ?k_put_number ?g_take_number ?l_take_number ?c_take_number ?k_take_number ?g_is_value ?l_is_value ?c_is_value ?k_is_value ?g__is_value_within ?l__is_value_within ?c__is_value_within ?k__is_value_within ?g_pack ?l_pack ?c_pack ?k_pack ?g__packed ?l__packed ?c__packed ?k__packed ?g_unpack ?l_unpack ?c_unpack ?k_unpack ?g__take_value ?l__take_value ?c__take_value ?k__take_value ?g__checked_integer ?l__checked_integer ?c__checked_integer ?k__checked_integer ?g__take_text ?l__take_text ?c__take_text ?k__take_text ?g__take_members ?l__take_members ?c__take_members ?k__take_members ?g__law_draws ?l__law_draws ?c__law_draws ?k__law_draws ?g__law_char ?l__law_char ?c__law_char ?k__law_char ?g__law_integer ?l__law_integer ?c__law_integer ?k__law_integer ?g__law_leaf ?l__law_leaf ?c__law_leaf ?k__law_leaf ?g__law_value ?l__law_value ?c__law_value ?k__law_value ?g__law_number ?l__law_number ?c__law_number ?k__law_number ?g__law_packed ?l__law_packed ?c__law_packed ?k__law_packed ?g__law_take_number ?l__law_take_number ?c__law_take_number ?k__law_take_number ?g__law_take_text ?l__law_take_text ?c__law_take_text ?k__law_take_text ?g__law_read ?l__law_read ?c__law_read ?k__law_read ?g__law_limit ?l__law_limit ?c__law_limit ?k__law_limit ?g__law_right ?l__law_right ?c__law_right ?k__law_right ?g__law_replaced ?l__law_replaced ?c__law_replaced ?k__law_replaced ?g_law ?l_law ?c_law ?k_law ?c_SPACE ?c_PERCENT ?c_TILDE ?c_MOST_BYTES ?c_MOST_BITS ?c_MOST_LENGTH ?c_MOST_DEPTH ?c_FALSE_TAG ?c_TRUE_TAG ?c_NATURAL_TAG ?c_NEGATIVE_TAG ?c_TEXT_TAG ?c_TUPLE_TAG ?c_CONSTANTS ?q_CONSTANTS ?v_CONSTANTS ?c_CHARACTERS ?c_PERCENT_BYTE ?n_range ?n_min ?n_len ?n_ord ?n_isinstance ?n_bool ?n_int ?n_str ?n_tuple ?n_abs ?n_list
    (case g_MajordomoError => k_is); (case x_MajordomoError => k_exc); (case k_MajordomoError => k_is); (case s_MajordomoError => k_is); (case t_MajordomoError => k_is); (case g_CodecError => k_is); (case x_CodecError => k_exc); (case k_CodecError => k_is); (case s_CodecError => k_is); (case t_CodecError => k_is); (case g_Truncated => k_is); (case x_Truncated => k_exc); (case k_Truncated => k_is); (case s_Truncated => k_is); (case t_Truncated => k_is); (case hx_Truncated => k_is); (case su_Truncated => k_is); (case g_Malformed => k_is); (case x_Malformed => k_exc); (case k_Malformed => k_is); (case s_Malformed => k_is); (case t_Malformed => k_is); (case hx_Malformed => k_is); (case su_Malformed => k_is); (case g_NotAValue => k_is); (case x_NotAValue => k_exc); (case k_NotAValue => k_is); (case s_NotAValue => k_is); (case t_NotAValue => k_is); (case sb_Truncated_Truncated => k_is); (case sb_Malformed_Truncated => k_is); (case sb_Malformed_Malformed => k_is); (case Xhg_Truncated => k_is); (case Xhk_Truncated => k_is); (case Xhs_Truncated => k_is); (case Xhd_Truncated => k_is); (case Xha_Truncated => k_is); (case Xhn_Truncated => k_is); (case Xht_Truncated => k_is); (case Xhm_Truncated => k_is); (case y_Truncated_CodecError => kit_is); (case y_Truncated_Malformed => kit_is); (case Xhg_Malformed => k_is); (case Xhk_Malformed => k_is); (case Xhs_Malformed => k_is); (case Xhd_Malformed => k_is); (case Xha_Malformed => k_is); (case Xhn_Malformed => k_is); (case Xht_Malformed => k_is); (case Xhm_Malformed => k_is); (case y_Malformed_CodecError => kit_is); (case g_has_plain_characters => k_is); (case l_has_plain_characters => k_is); (case c_has_plain_characters => k_is); (case k_has_plain_characters => k_is); (case g_put_number => k_is); (case l_put_number => k_is); (case c_put_number => k_is); (case k_put_number => k_is); (case g_take_number => k_is); (case l_take_number => k_is); (case c_take_number => k_is); (case k_take_number => k_is); (case g_is_value => k_is); (case l_is_value => k_is); (case c_is_value => k_is); (case k_is_value => k_is); (case g__is_value_within => k_is); (case l__is_value_within => k_is); (case c__is_value_within => k_is); (case k__is_value_within => k_is); (case g_pack => k_is); (case l_pack => k_is); (case c_pack => k_is); (case k_pack => k_is); (case g__packed => k_is); (case l__packed => k_is); (case c__packed => k_is); (case k__packed => k_is); (case g_unpack => k_is); (case l_unpack => k_is); (case c_unpack => k_is); (case k_unpack => k_is); (case g__take_value => k_is); (case l__take_value => k_is); (case c__take_value => k_is); (case k__take_value => k_is); (case g__checked_integer => k_is); (case l__checked_integer => k_is); (case c__checked_integer => k_is); (case k__checked_integer => k_is); (case g__take_text => k_is); (case l__take_text => k_is); (case c__take_text => k_is); (case k__take_text => k_is); (case g__take_members => k_is); (case l__take_members => k_is); (case c__take_members => k_is); (case k__take_members => k_is); (case g__law_draws => k_is); (case l__law_draws => k_is); (case c__law_draws => k_is); (case k__law_draws => k_is); (case g__law_char => k_is); (case l__law_char => k_is); (case c__law_char => k_is); (case k__law_char => k_is); (case g__law_integer => k_is); (case l__law_integer => k_is); (case c__law_integer => k_is); (case k__law_integer => k_is); (case g__law_leaf => k_is); (case l__law_leaf => k_is); (case c__law_leaf => k_is); (case k__law_leaf => k_is); (case g__law_value => k_is); (case l__law_value => k_is); (case c__law_value => k_is); (case k__law_value => k_is); (case g__law_number => k_is); (case l__law_number => k_is); (case c__law_number => k_is); (case k__law_number => k_is); (case g__law_packed => k_is); (case l__law_packed => k_is); (case c__law_packed => k_is); (case k__law_packed => k_is); (case g__law_take_number => k_is); (case l__law_take_number => k_is); (case c__law_take_number => k_is); (case k__law_take_number => k_is); (case g__law_take_text => k_is); (case l__law_take_text => k_is); (case c__law_take_text => k_is); (case k__law_take_text => k_is); (case g__law_read => k_is); (case l__law_read => k_is); (case c__law_read => k_is); (case k__law_read => k_is); (case g__law_limit => k_is); (case l__law_limit => k_is); (case c__law_limit => k_is); (case k__law_limit => k_is); (case g__law_right => k_is); (case l__law_right => k_is); (case c__law_right => k_is); (case k__law_right => k_is); (case g__law_replaced => k_is); (case l__law_replaced => k_is); (case c__law_replaced => k_is); (case k__law_replaced => k_is); (case g_law => k_is); (case l_law => k_is); (case c_law => k_is); (case k_law => k_is); (case c_SPACE => k_is); (case c_PERCENT => k_is); (case c_TILDE => k_is); (case c_MOST_BYTES => k_is); (case c_MOST_BITS => k_is); (case c_MOST_LENGTH => k_is); (case c_MOST_DEPTH => k_is); (case c_FALSE_TAG => k_is); (case c_TRUE_TAG => k_is); (case c_NATURAL_TAG => k_is); (case c_NEGATIVE_TAG => k_is); (case c_TEXT_TAG => k_is); (case c_TUPLE_TAG => k_is); (case c_CONSTANTS => k_is); (case q_CONSTANTS => k_is); (case v_CONSTANTS => (repeat (first | exact .nil | refine .cons ⟨_, rfl⟩ ?_ | refine .cons rfl ?_))); (case c_CHARACTERS => k_is); (case c_PERCENT_BYTE => k_is); (case n_range => k_is); (case n_min => k_is); (case n_len => k_is); (case n_ord => k_is); (case n_isinstance => k_is); (case n_bool => k_is); (case n_int => k_is); (case n_str => k_is); (case n_tuple => k_is); (case n_abs => k_is); (case n_list => k_is)

