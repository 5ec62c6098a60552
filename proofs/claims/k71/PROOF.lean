import PyProof.Rows.All
import Wide.All
import OpenK.AllK
import Wide.FinOn
import HandS.ForMost
import HandS.IsInst
import HandS.EndBits
import HandS.Wide
import HandS.WideBits
import HandS.TupAny
import HandS.Codes
import HandS.Defaults
import HandS.ForExc
import HandS.TryMany
import HandS.ExcIs
import HandS.TryElse
import HandS.DictComp
import HandS.Walk
import HandS.NoneIn
import HandS.TupLe
import HandS.More
import HandS.Sort
import PySem.Challenge.RW_majordomo_k71_assumed_binds
set_option Elab.async false
set_option linter.all false
set_option maxRecDepth 100000
set_option maxHeartbeats 4000000

namespace My
open PySem PySem.Spec PyProof.Rows L2
/-! own words: tests, heaps, items -/
theorem ifd {p A B : Prop} [Decidable p] (h1 : p → A) (h2 : ¬ p → B) : if decide p = true then A else B := by
  by_cases h : p
  · rw [decide_eq_true h]; exact (if_pos rfl).mpr (h1 h)
  · rw [decide_eq_false h]; exact (if_neg Bool.false_ne_true).mpr (h2 h)
theorem ifn {p A B : Prop} [Decidable p] (h1 : ¬ p → A) (h2 : p → B) : if (!decide p) = true then A else B := by
  by_cases h : p
  · rw [decide_eq_true h]; exact (if_neg Bool.false_ne_true).mpr (h2 h)
  · rw [decide_eq_false h]; exact (if_pos rfl).mpr (h1 h)
theorem ift {p A B : Prop} [Decidable p] (h : p) (h1 : A) : if decide p = true then A else B := by
  rw [decide_eq_true h]; exact (if_pos rfl).mpr h1
theorem iff0 {p A B : Prop} [Decidable p] (h : ¬ p) (h1 : B) : if decide p = true then A else B := by
  rw [decide_eq_false h]; exact (if_neg Bool.false_ne_true).mpr h1
theorem ifnt {p A B : Prop} [Decidable p] (h : p) (h1 : B) : if (!decide p) = true then A else B := by
  rw [decide_eq_true h]; exact (if_neg Bool.false_ne_true).mpr h1
theorem ifbt {b : Bool} {A B : Prop} (h : b = true) (h1 : A) : if b = true then A else B := (if_pos h).mpr h1
theorem ifbf {b : Bool} {A B : Prop} (h : b = false) (h1 : B) : if b = true then A else B := by rw [h]; exact h1
theorem ifb2 {b : Bool} {A B : Prop} (h1 : b = true → A) (h2 : b = false → B) : if b = true then A else B := by
  cases b with
  | true => exact h1 rfl
  | false => exact h2 rfl
theorem same_upd {H : Hp} {p : Addr} {o : HO} (h : H p = none) : Same H (upd H p o) := fun b x e => by
  rw [upd_ne (ne_of_none e h)]
  exact e
theorem same_put {H H' : Hp} {p : Addr} {o : HO} (e : Same H H') (h : H p = none) : Same H (upd H' p o) := fun b x q => by
  rw [upd_ne (ne_of_none q h)]
  exact e b x q
theorem sqt_same {K : PySem.W.Frag} {H H' : Hp} {a : Addr} {xs : List V} (e : Same H H') (h : SqT K H a xs) : SqT K H' a xs := by
  rcases h with (h | ⟨o, h⟩) | h
  · exact .inl (.inl (e _ _ h))
  · exact .inl (.inr ⟨o, e _ _ h⟩)
  · exact .inr h
theorem sql {K : PySem.W.Frag} {H : Hp} {a : Addr} {xs : List V} (h : H a = some (.lst xs)) : SqL K H a xs := .inl (.inl h)
theorem sqt {K : PySem.W.Frag} {H : Hp} {a : Addr} {xs : List V} (h : H a = some (.tup xs)) : SqT K H a xs := .inl (.inl h)
theorem sz {n : Nat} (h : n ≤ 100000) : n ≤ sizeLine := Nat.le_trans h (by decide)
theorem szl {n : Nat} (h : n ≤ 100000) : n < sizeLine := Nat.lt_of_le_of_lt h (by decide)
theorem map_at {α : Type} {f : α → V} {xs : List α} {i : Nat} {y : V} (h : (xs.map f)[i]? = some y) : ∃ x, xs[i]? = some x ∧ y = f x := by
  rw [List.getElem?_map] at h
  cases e : xs[i]? with
  | none => rw [e] at h; cases h
  | some x => rw [e] at h; exact ⟨x, rfl, (Option.some.inj h).symm⟩
theorem at_map {α : Type} {f : α → V} {xs : List α} {i : Nat} {x : α} (h : xs[i]? = some x) : atI (xs.map f) (i : Int) = some (f x) := atI_nat (by rw [List.getElem?_map, h]; rfl)
theorem take_more {α : Type} {l : List α} {i : Nat} {x : α} (h : l[i]? = some x) : l.take (i + 1) = l.take i ++ [x] := by
  rw [List.take_add_one, h]; rfl
/-! deep data stands as long as what was tracked stands -/
mutual
theorem dp_same {K : PySem.W.Frag} {H H' : Hp} (e : Same H H') : ∀ (d : PyData) {v : V}, Dp K H v d → Dp K H' v d
  | _, _, .non => .non
  | _, _, .bl b => .bl b
  | _, _, .int i => .int i
  | _, _, .str x => .str x
  | .list ds, _, .lst h a => .lst (e.seq h) (dpa_same e ds a)
  | .tuple ds, _, .tup h a => .tup (sqt_same e h) (dpa_same e ds a)
theorem dpa_same {K : PySem.W.Frag} {H H' : Hp} (e : Same H H') : ∀ (ds : List PyData) {vs : List V}, DpAll K H vs ds → DpAll K H' vs ds
  | [], _, .nil => .nil
  | d :: ds, _, .cons h a => .cons (dp_same e d h) (dpa_same e ds a)
end
theorem dpa_len {K : PySem.W.Frag} {H : Hp} : ∀ {vs : List V} {ds : List PyData}, DpAll K H vs ds → vs.length = ds.length
  | _, _, .nil => rfl
  | _, _, .cons _ a => by rw [List.length_cons, List.length_cons, dpa_len a]
theorem dpa_at {K : PySem.W.Frag} {H : Hp} : ∀ {vs : List V} {ds : List PyData} {i : Nat} {v : V}, DpAll K H vs ds → vs[i]? = some v → ∃ d, ds[i]? = some d ∧ Dp K H v d
  | _, _, _, _, .nil, h => by simp at h
  | _, _, 0, _, .cons h _, e => ⟨_, rfl, by have := Option.some.inj e; subst this; exact h⟩
  | _, _, i + 1, _, .cons _ a, e => dpa_at (i := i) a (by simpa using e)
theorem dpa_app {K : PySem.W.Frag} {H : Hp} : ∀ {vs ws : List V} {ds es : List PyData}, DpAll K H vs ds → DpAll K H ws es → DpAll K H (vs ++ ws) (ds ++ es)
  | _, _, _, _, .nil, b => b
  | _, _, _, _, .cons h a, b => .cons h (dpa_app a b)
theorem eqv_self {d : PyData} (h : SeqAt.shaped d = true) : PyData.eqv d d = true := SeqAt.eqv_refl d (SeqAt.canLay_of_shaped h)
/-! data that may be compared -/
theorem layAll : ∀ {ds : List PyData}, (∀ d ∈ ds, d.canLay0 = true) → PyData.canLayAll0 ds = true
  | [], _ => rfl
  | d :: ds, h => by
    rw [PyData.canLayAll0, h d List.mem_cons_self, layAll fun e he => h e (List.mem_cons_of_mem _ he)]; rfl
theorem depAll {n : Nat} : ∀ {ds : List PyData}, (∀ d ∈ ds, d.depth ≤ n) → PyData.depthAll ds ≤ n
  | [], _ => Nat.zero_le _
  | d :: ds, h => by
    have h1 := h d List.mem_cons_self
    have h2 := depAll (ds := ds) fun e he => h e (List.mem_cons_of_mem _ he)
    simp only [PyData.depthAll]
    omega
/-- plain data of at most this depth -/
def Flat (n : Nat) (d : PyData) : Prop := d.canLay0 = true ∧ d.depth ≤ n
theorem flat_list {n : Nat} {ds : List PyData} (h : ∀ d ∈ ds, Flat n d) : Flat (n + 1) (.list ds) :=
  ⟨by rw [PyData.canLay0]; exact layAll fun d hd => (h d hd).1, by have := depAll (n := n) fun d hd => (h d hd).2; simp only [PyData.depth]; omega⟩
theorem flat_tup {n : Nat} {ds : List PyData} (h : ∀ d ∈ ds, Flat n d) : Flat (n + 1) (.tuple ds) :=
  ⟨by rw [PyData.canLay0]; exact layAll fun d hd => (h d hd).1, by have := depAll (n := n) fun d hd => (h d hd).2; simp only [PyData.depth]; omega⟩
theorem flat_int (n : Nat) (i : Int) : Flat n (.int i) := ⟨rfl, by simp [PyData.depth]⟩
theorem flat_str (n : Nat) (x : Str) (h : (PyData.str x).canLay0 = true := by decide +kernel) : Flat n (.str x) := ⟨h, by simp [PyData.depth]⟩
theorem flat_bl (n : Nat) (b : Bool) : Flat n (.bool b) := ⟨rfl, by simp [PyData.depth]⟩
theorem flat_non (n : Nat) : Flat n .none := ⟨rfl, by simp [PyData.depth]⟩
theorem Flat.mono {n m : Nat} {d : PyData} (h : Flat n d) (hm : n ≤ m) : Flat m d := ⟨h.1, Nat.le_trans h.2 hm⟩
theorem Flat.sh {n : Nat} {d : PyData} (h : Flat n d) (hn : n ≤ 64) : SeqAt.shaped d = true := by
  show (d.canLay0 && decide (d.depth ≤ 64)) = true
  rw [Bool.and_eq_true]
  exact ⟨h.1, decide_eq_true (Nat.le_trans h.2 hn)⟩
theorem tyx_t {K : PySem.W.Frag} {H : Hp} {a : Addr} {xs : List V} (h : SqT K H a xs) : TyX K H (.ref a) (.type "tuple") := by
  rcases h with (h | ⟨o, h⟩) | ⟨o, its, n, h, hc, _⟩
  · exact .base (.tup h)
  · exact .fTuple h
  · exact .kTuple h hc
theorem tyx_l {K : PySem.W.Frag} {H : Hp} {a : Addr} {xs : List V} (h : SqL K H a xs) : TyX K H (.ref a) (.type "list") := by
  rcases h with (h | ⟨o, h⟩) | ⟨o, its, n, h, hc, _⟩
  · exact .base (.lst h)
  · exact .base (.frz h)
  · exact .kList h hc
theorem same_both {G H : Hp} {t : Addr} {x : HO} (e : Same G H) : Same (upd G t x) (upd H t x) := fun b o h => by
  by_cases hb : b = t
  · subst hb; rw [upd_same] at h ⊢; exact h
  · rw [upd_ne hb] at h ⊢; exact e b o h
theorem set_self {α : Type} : ∀ {l : List α} {i : Nat} {x : α}, l[i]? = some x → l.set i x = l
  | [], i, x, h => by simp at h
  | a :: l, 0, x, h => by
    have e : a = x := Option.some.inj h
    subst e
    rfl
  | a :: l, i + 1, x, h => by
    show a :: l.set i x = a :: l
    rw [set_self (by simpa using h)]
theorem ixn {n j : Nat} {i : Int} (hi : i = (j : Int)) (hj : j < n) : ixN n i = some j := by
  unfold ixN
  rw [if_pos (by omega), if_pos (by omega)]
  congr 1
  omega
/-! shifts and masks in place -/
section
variable {X : Cx}
theorem ip_shr : PIp X .RShift (fun x y H Q => ∃ (i : Int) (k : Nat), x = .int i ∧ y = .int (k : Int) ∧ Q (.int (i / 2 ^ k)) H) := by
  intro pins s σ H x y v u Q I r1 r2 h
  obtain ⟨i, k, e1, e2, q⟩ := h
  subst e1; subst e2
  obtain ⟨t, rfl⟩ := r1
  obtain ⟨t', rfl⟩ := r2
  refine irshift_int (Int.natCast_nonneg k) ⟨.int _, H, I.tok _, ⟨_, rfl⟩, ?_⟩
  rw [Int.toNat_natCast, Int.fdiv_eq_ediv_of_nonneg _ (Int.le_of_lt (Int.pow_pos (by decide)))]
  exact q
theorem ip_or : PIp X .BitOr (fun x y H Q => ∃ (r a : Int) (k : Nat), x = .int r ∧ y = .int (a * 2 ^ k) ∧ (0 ≤ a ∧ 0 ≤ r ∧ r < 2 ^ k) ∧ Q (.int (r + a * 2 ^ k)) H) := by
  intro pins s σ H x y v u Q I r1 r2 h
  obtain ⟨r, a, k, e1, e2, ⟨h0, h1, h2⟩, q⟩ := h
  subst e1; subst e2
  obtain ⟨t, rfl⟩ := r1
  obtain ⟨t', rfl⟩ := r2
  refine ior_int ⟨.int _, H, I.tok _, ⟨_, rfl⟩, ?_⟩
  have e : Builtin.bitOr r (a * 2 ^ k) = r + a * 2 ^ k := by
    have hp : (0 : Int) ≤ a * 2 ^ k := Int.mul_nonneg h0 (Int.le_of_lt (Int.pow_pos (by decide)))
    rw [bitOr_nn h1 hp, Nat.or_comm, ← bitOr_nn hp h1, or_low h0 h1 h2, Int.add_comm]
  rw [e]
  exact q
end
theorem bits_small : ∀ n : Nat, n < 128 → Builtin.Int.intBits (n : Int) ≤ 8 := by decide +kernel
/-- isinstance(e, c) of the error that a suite holds, its class known by the reading -/
theorem call_isE1 {X : Cx} {a D : Addr} {oe : Obj} {cls : Value} {d : Option Addr} {pn : List (Addr × Obj)} (C : ExcC X.K D) (hz : Zc cls d oe) (hf : ∃ vs, oe.data = .fields vs) :
    CallR (X.suite a ((a, oe) :: pn)) (.builtin "isinstance") (fun xs H Q => cls = .ref D ∧ d = none ∧ rIsE X.K D a xs H Q) := fun pins s σ H xs us Q I r h => by
  obtain ⟨h1, h2, h⟩ := h
  subst h1
  subst h2
  exact call_isE C hz hf pins s σ H xs us Q I r h
/-! slices -/
theorem sIx_le {n d : Nat} {i : Nat} : HT.sIx n d (some (i : Int)) = min i n := HT.sIx_nat n d i
theorem cut0n (xs : List V) (j : Nat) : cutV xs none (some (j : Int)) = xs.take j := by
  unfold cutV
  rw [sIx_le, HT.sIx_none, List.drop_zero, Nat.sub_zero]
  exact (List.take_eq_take_min).symm
theorem cutnn (xs : List V) (i j : Nat) : cutV xs (some (i : Int)) (some (j : Int)) = (xs.drop i).take (j - i) := by
  unfold cutV
  rw [sIx_le, sIx_le]
  by_cases hi : i ≤ xs.length
  · rw [Nat.min_eq_left hi]
    by_cases hj : j ≤ xs.length
    · rw [Nat.min_eq_left hj]
    · rw [Nat.min_eq_right (by omega), List.take_of_length_le (by rw [List.length_drop]; omega), List.take_of_length_le (by rw [List.length_drop]; omega)]
  · have e : min i xs.length = xs.length := by omega
    rw [e, List.drop_of_length_le (Nat.le_refl _), List.drop_of_length_le (show xs.length ≤ i by omega), List.take_nil, List.take_nil]
theorem cut_ints (ns : List Int) {i j : Nat} {a b : Int} (ha : a = i) (hb : b = j) : cutV (ns.map V.int) (some a) (some b) = ((ns.drop i).take (j - i)).map V.int := by
  rw [ha, hb, cutnn, ← List.map_drop, ← List.map_take]
theorem rep_ints (ns : List Int) (k : Nat) : (List.replicate k (ns.map V.int)).flatten = (List.replicate k ns).flatten.map V.int := by
  rw [List.map_flatten, List.map_replicate]
/-- [e for x in a slice], e changes nothing -/
theorem lc_cut {K : PySem.W.Frag} {wi : TI} {te : TE} {s : Nat} {σ : L2.St} {H : Hp} {Q : VK} (xs : List V) (f : V → V)
    (hwi : ∀ R : It → Hp → Prop, (∀ p, H p = none → R (Itl K p) (upd H p (.lst xs))) → wi σ H R) (hlen : xs.length ≤ 90000)
    (hw : ∀ x, wipe ((wipe σ [s]).set s (some x)) [s] = wipe σ [s])
    (he : ∀ (i : Nat) (x : V) (G : Hp) (Q' : VK), xs[i]? = some x → Same H G → Q' (f x) G → te ((wipe σ [s]).set s (some x)) G Q')
    (k : ∀ D H', H D = none → Same H H' → H' D = some (.lst (xs.map f)) → Q (.ref D) H') : tLc wi (gName s) tYes te [s] σ H Q := by
  refine hwi _ fun p hp D hD => ?_
  have nD : D ≠ p := fun z => by rw [z, upd_same] at hD; cases hD
  have hD0 : H D = none := by rw [upd_ne nD] at hD; exact hD
  refine lc_list (K := K) (a := p) (xs := xs) (fun i H' => Same H H' ∧ H' p = some (.lst xs) ∧ H' D = some (.lst ((xs.take i).map f)))
    ⟨(same_upd hp).trans (same_upd hD), by rw [upd_ne nD.symm, upd_same], by rw [upd_same]; rfl⟩ (fun i H' _ h => sql h.2.1) (fun i x G hx hG => ?_) (fun G hG => ?_)
  · refine ⟨hw x, ?_⟩
    refine he i x G _ hx hG.1 ⟨_, hG.2.2, szl (by rw [List.length_map, List.length_take]; omega), same_put hG.1 hD0, by rw [upd_ne nD.symm]; exact hG.2.1, ?_⟩
    rw [upd_same, take_more hx, List.map_append]
    rfl
  · refine k D G hD0 hG.1 ?_
    rw [List.take_length] at hG
    exact hG.2.2
/-- lists of ints as data -/
theorem dpa_ints {K : PySem.W.Frag} {H : Hp} : ∀ ns : List Int, DpAll K H (ns.map V.int) (ns.map PyData.int)
  | [] => .nil
  | n :: ns => .cons (.int n) (dpa_ints ns)
theorem dp_ints {K : PySem.W.Frag} {H : Hp} {a : Addr} {ns : List Int} (h : SqL K H a (ns.map V.int)) : Dp K H (.ref a) (.list (ns.map PyData.int)) := .lst h (dpa_ints ns)
theorem flat_ints (ns : List Int) : Flat 1 (.list (ns.map PyData.int)) := flat_list (n := 0) fun d hd => by
  obtain ⟨i, _, rfl⟩ := List.mem_map.mp hd
  exact flat_int _ _
theorem flat_tints (ns : List Int) : Flat 1 (.tuple (ns.map PyData.int)) := flat_tup (n := 0) fun d hd => by
  obtain ⟨i, _, rfl⟩ := List.mem_map.mp hd
  exact flat_int _ _
theorem eqvAll_ints : ∀ xs ys : List Int, PyData.eqvAll (xs.map .int) (ys.map .int) = decide (xs = ys)
  | [], [] => rfl
  | [], _ :: _ => rfl
  | _ :: _, [] => rfl
  | x :: xs, y :: ys => by
    show ((x == y) && PyData.eqvAll (xs.map .int) (ys.map .int)) = _
    rw [eqvAll_ints xs ys, Bool.eq_iff_iff]
    simp
theorem eqv_ints (xs ys : List Int) : PyData.eqv (.list (xs.map .int)) (.list (ys.map .int)) = decide (xs = ys) := eqvAll_ints xs ys
theorem eqv_tints (xs ys : List Int) : PyData.eqv (.tuple (xs.map .int)) (.tuple (ys.map .int)) = decide (xs = ys) := eqvAll_ints xs ys
/-- a def with defaults that lets nothing out -/
theorem okD {P : Program} {w : World} {K : PySem.W.Frag} {mg : Str → Option Value} {base : Heap} {x qual : Str} {params : Arguments} {body : List Stmt} {scope : Scope} {dvs : List V} {kws : List (Str × V)} {f : Addr} {fd : FuncData} {N ps : List Str} {k : Nat} {sp : Sp}
    (F : FunD K x qual params body scope dvs kws f fd) (S : FnScope N ps scope) (len : ∀ vs H Q E, sp vs H Q E → vs.length = ps.length)
    (hb : ∀ (cdv : Value) (A : Around) (outer : List Env) (s : Shared) (H : Hp) (vs : List V) (Q : VK) (E : XK), Room k (A.deeper (envOfC qual scope s.heap.objs.size f cdv)) → sp vs H Q E →
      ∃ t, PSs (cxOf CX0 P w K mg base N qual scope f cdv A outer s H E).nox body t ∧ t { nx := fun _ H' => Q .non H', rt := Q } (start N vs) H) : FnOk P w K mg base CX0 (k + 1) f fd ps sp :=
  F.ok S len fun cdv A outer s H vs Q E hr h => by
    obtain ⟨t, h1, q⟩ := hb cdv A outer s H vs Q E hr h
    exact ⟨t, h1.nox, q⟩
/-! what an expression gives, whatever stands besides -/
def EI (te : TE) (σ : L2.St) (H : Hp) (v : V) : Prop := ∀ G, Same H G → ∀ Q : VK, Q v G → te σ G Q
def EA (ta : TA) (σ : L2.St) (H : Hp) (vs : List V) : Prop := ∀ G, Same H G → ∀ Q : List V → Hp → Prop, Q vs G → ta σ G Q
/-- a list, new or old -/
def EL (te : TE) (σ : L2.St) (H : Hp) (xs : List V) : Prop := ∀ G, Same H G → ∀ Q : VK, (∀ p G', Same G G' → G' p = some (.lst xs) → Q (.ref p) G') → te σ G Q
section
variable {K : PySem.W.Frag} {σ : L2.St} {H : Hp} {ta tb te : TE} {x y z v : V} {xs ys : List V}
theorem ei_var {i : Nat} (h : σ[i]? = some (some v)) : EI (tVar i) σ H v := fun _ _ _ q => ⟨v, h, q⟩
theorem ei_c : EI (tC v) σ H v := fun _ _ _ q => q
theorem ei_op {r : R2} (ha : EI ta σ H x) (hb : EI tb σ H y) (hr : ∀ G, Same H G → ∀ Q : VK, Q z G → r x y G Q) : EI (tOp r ta tb) σ H z := fun G s Q q => ha G s _ (hb G s _ (hr G s Q q))
theorem ei_i0 {g : Int → Int → V} {i j : Int} (ha : EI ta σ H (.int i)) (hb : EI tb σ H (.int j)) : EI (tOp (rI0 g) ta tb) σ H (g i j) := ei_op ha hb fun _ _ _ q => ⟨i, j, rfl, rfl, q⟩
theorem ei_ic {C : Int → Int → Prop} {g : Int → Int → V} {i j : Int} (ha : EI ta σ H (.int i)) (hb : EI tb σ H (.int j)) (hc : C i j) : EI (tOp (rI C g) ta tb) σ H (g i j) := ei_op ha hb fun _ _ _ q => ⟨i, j, rfl, rfl, hc, q⟩
theorem ea_nil : EA tNil σ H [] := fun _ _ _ q => q
theorem ea_cons {tr : TA} {vs : List V} (h : EI ta σ H x) (g : EA tr σ H vs) : EA (tCons ta tr) σ H (x :: vs) := fun G s _ q => h G s _ (g G s _ q)
theorem ei_cb {r : List V → Hp → VK → Prop} {tr : TA} {vs : List V} (ha : EA tr σ H vs) (hr : ∀ G, Same H G → ∀ Q : VK, Q z G → r vs G Q) : EI (tCB r tr) σ H z := fun G s Q q => ha G s _ (hr G s Q q)
/-- len of a list, list(..) of a list or a tuple, as they are read -/
def rLen (K : PySem.W.Frag) : List V → Hp → VK → Prop := fun xs H Q => ∃ p ys, xs = [.ref p] ∧ (SqL K H p ys ∨ SqT K H p ys) ∧ Q (.int ys.length) H
def rLst (K : PySem.W.Frag) : List V → Hp → VK → Prop := fun xs H Q => ∃ p ys, xs = [.ref p] ∧ (SqL K H p ys ∨ SqT K H p ys) ∧ ∀ l, H l = none → Q (.ref l) (upd H l (.lst ys))
def rTup (K : PySem.W.Frag) : List V → Hp → VK → Prop := fun xs H Q => ∃ p ys, xs = [.ref p] ∧ ((SqL K H p ys ∧ ∀ l, H l = none → Q (.ref l) (upd H l (.tup ys))) ∨ (SqT K H p ys ∧ Q (.ref p) H))
theorem callK_tuple {X : Cx} (h : X.K = K) : CallR X (.type "tuple") (rTup K) := by subst h; exact call_tuple_of
theorem callK_list {X : Cx} (h : X.K = K) : CallR X (.type "list") (rLst K) := by subst h; exact call_list_of
theorem opK_catA {X : Cx} (h : X.K = K) : OpR X (binaryOp .Add) (rCatA K) := by subst h; exact op_catA
theorem ixK_list {X : Cx} (h : X.K = K) : IxR X (rIxL K) := by subst h; exact ix_list
theorem ixK_tup {X : Cx} (h : X.K = K) : IxR X (rIxT K) := by subst h; exact ix_tup
theorem pe_fldK {X : Cx} {e : Expr} {f : Str} {pos : Pos} {ta : TE} (h : X.K = K) (he : PE X e ta) (hb : attributeBase e f X.env (eval e X.env) = eval e X.env) : PE X (.Attribute e f pos) (tFld K ta f) := by subst h; exact pe_fld he hb
theorem callK_len {X : Cx} (h : X.K = K) : CallR X (.builtin "len") (rLen K) := by subst h; exact call_len_seq
theorem ei_lenL {i : Nat} {p : Addr} (h : σ[i]? = some (some (.ref p))) (e : SqL K H p xs) : EI (tCB (rLen K) (tCons (tVar i) tNil)) σ H (.int (xs.length : Int)) := ei_cb (ea_cons (ei_var h) ea_nil) fun _ s _ q => ⟨p, xs, rfl, .inl (s.seq e), q⟩
theorem ei_lenT {i : Nat} {p : Addr} (h : σ[i]? = some (some (.ref p))) (e : SqT K H p xs) : EI (tCB (rLen K) (tCons (tVar i) tNil)) σ H (.int (xs.length : Int)) := ei_cb (ea_cons (ei_var h) ea_nil) fun _ s _ q => ⟨p, xs, rfl, .inr (sqt_same s e), q⟩
theorem ei_fld {i : Nat} {p C dx : Addr} {fs : List (Str × V)} {f : Str} (h : σ[i]? = some (some (.ref p))) (hp : H p = some (.ins C dx fs)) (c : Cls K C) (n : NoAttr K C f) (l : fs.lookup f = some v) : EI (tFld K (tVar i) f) σ H v := fun _ s _ q => ⟨.ref p, h, p, C, dx, fs, v, rfl, s _ _ hp, c, n, l, q⟩
theorem ei_din {td : TE} {d : Addr} {kvs : List (Key × V)} {k : Key} (hy : EI te σ H (kV k)) (hd : EI td σ H (.ref d)) (e : H d = some (.dK kvs)) : EI (tDIn te td) σ H (.bl (valV kvs k).isSome) := fun G s _ q => hy G s _ (hd G s _ ⟨d, _, rfl, DGet.k (s _ _ e), q⟩)
theorem ei_dnotin {td : TE} {d : Addr} {kvs : List (Key × V)} {k : Key} (hy : EI te σ H (kV k)) (hd : EI td σ H (.ref d)) (e : H d = some (.dK kvs)) : EI (tDNotIn te td) σ H (.bl (!(valV kvs k).isSome)) := fun G s _ q => hy G s _ (hd G s _ ⟨d, _, rfl, DGet.k (s _ _ e), q⟩)
theorem ei_dget {td : TE} {d : Addr} {kvs : List (Key × V)} {k : Key} (hy : EI te σ H (kV k)) (hd : EI td σ H (.ref d)) (e : H d = some (.dK kvs)) (hv : valV kvs k = some v) : EI (tDGet td te) σ H v := fun G s _ q => hd G s _ (hy G s _ ⟨d, v, rfl, by rw [← hv]; exact DGet.k (s _ _ e), q⟩)
theorem ei_ixL {p : Addr} {j : Int} (ha : EI ta σ H (.ref p)) (hi : EI tb σ H (.int j)) (e : SqL K H p xs) (h : atI xs j = some v) : EI (tOp (rIxL K) ta tb) σ H v := ei_op ha hi fun _ s _ q => ⟨p, xs, j, v, rfl, rfl, s.seq e, h, q⟩
theorem ei_ixT {p : Addr} {j : Int} (ha : EI ta σ H (.ref p)) (hi : EI tb σ H (.int j)) (e : SqT K H p xs) (h : atI xs j = some v) : EI (tOp (rIxT K) ta tb) σ H v := ei_op ha hi fun _ s _ q => ⟨p, xs, j, v, rfl, rfl, sqt_same s e, h, q⟩
theorem ei_eq (ha : EI ta σ H x) (hb : EI tb σ H y) (h : scal x y = true) : EI (tOp rEq ta tb) σ H (.bl (decide (x = y))) := ei_op ha hb fun _ _ _ q => ⟨h, q⟩
theorem ei_ne (ha : EI ta σ H x) (hb : EI tb σ H y) (h : scal x y = true) : EI (tOp rNe ta tb) σ H (.bl (!decide (x = y))) := ei_op ha hb fun _ _ _ q => ⟨h, q⟩
/-- a test by its value -/
theorem tt_use {b : Bool} {Q : Bool → Hp → Prop} (h : EI te σ H (.bl b)) (k : Q b H) : tTest te σ H Q := h H (Same.refl _) _ ⟨b, rfl, k⟩
theorem tb_use {b : Bool} {Q : Bool → Hp → Prop} (h : EI te σ H (.bl b)) (k : Q b H) : tB te σ H Q := h H (Same.refl _) _ ⟨b, rfl, k⟩
theorem el_var {i : Nat} {p : Addr} (h : σ[i]? = some (some (.ref p))) (e : H p = some (.lst xs)) : EL (tVar i) σ H xs := fun G s _ q => ⟨.ref p, h, q p G (Same.refl _) (s _ _ e)⟩
/-- a new list -/
def EN (te : TE) (σ : L2.St) (H : Hp) (xs : List V) : Prop := ∀ G, Same H G → ∀ Q : VK, (∀ p G', G p = none → Same G G' → G' p = some (.lst xs) → Q (.ref p) G') → te σ G Q
theorem EN.el (h : EN te σ H xs) : EL te σ H xs := fun G s Q q => h G s Q fun p G' _ => q p G'
theorem en_lst {tr : TA} {vs : List V} (ha : EA tr σ H vs) (hl : vs.length ≤ 90000) : EN (tLst tr) σ H vs := fun G s _ q => ha G s _ ⟨sz (by omega), fun p hp => q p _ hp (same_upd hp) upd_same⟩
theorem en_cat (ha : EL ta σ H xs) (hb : EL tb σ H ys) (hl : xs.length + ys.length ≤ 90000) : EN (tOp rCat ta tb) σ H (xs ++ ys) := fun G s _ q =>
  ha G s _ fun p G1 s1 e1 => hb G1 (s.trans s1) _ fun p2 G2 s2 e2 => ⟨p, p2, xs, ys, rfl, rfl, s2 _ _ e1, e2, sz (by omega), fun p3 h3 => q p3 _ ((s1.trans s2).free h3) ((s1.trans s2).trans (same_upd h3)) upd_same⟩
theorem en_rep {k : Int} (ha : EL ta σ H xs) (hb : EI tb σ H (.int k)) (h1 : -1000000 ≤ k) (h2 : k ≤ 1000000) (hl : xs.length * k.toNat ≤ 90000) : EN (tOp rRep ta tb) σ H (List.replicate k.toNat xs).flatten := fun G s _ q =>
  ha G s _ fun p G1 s1 e1 => hb G1 (s.trans s1) _ ⟨p, k, xs, rfl, rfl, e1, by omega, by omega, sz (by omega), fun p3 h3 => q p3 _ (s1.free h3) (s1.trans (same_upd h3)) upd_same⟩
theorem el_lst {tr : TA} {vs : List V} (ha : EA tr σ H vs) (hl : vs.length ≤ 90000) : EL (tLst tr) σ H vs := (en_lst ha hl).el
theorem el_cat (ha : EL ta σ H xs) (hb : EL tb σ H ys) (hl : xs.length + ys.length ≤ 90000) : EL (tOp rCat ta tb) σ H (xs ++ ys) := (en_cat ha hb hl).el
theorem el_rep {k : Int} (ha : EL ta σ H xs) (hb : EI tb σ H (.int k)) (h1 : -1000000 ≤ k) (h2 : k ≤ 1000000) (hl : xs.length * k.toNat ≤ 90000) : EL (tOp rRep ta tb) σ H (List.replicate k.toNat xs).flatten := (en_rep ha hb h1 h2 hl).el
theorem el_cb {r : List V → Hp → VK → Prop} {tr : TA} {vs : List V} (ha : EA tr σ H vs) (hr : ∀ G, Same H G → ∀ Q : VK, (∀ p G', Same G G' → G' p = some (.lst xs) → Q (.ref p) G') → r vs G Q) : EL (tCB r tr) σ H xs := fun G s Q q => ha G s _ (hr G s Q q)
theorem el_call {sp : Sp} {dvs : List V} {E : XK} {tr : TA} {vs : List V} (ha : EA tr σ H vs) (hr : ∀ G, Same H G → ∀ Q : VK, (∀ p G', Same G G' → G' p = some (.lst xs) → Q (.ref p) G') → sp (vs ++ dvs) G Q E) : EL (tCall sp dvs E tr) σ H xs := fun G s Q q => ha G s _ (hr G s Q q)
theorem el_listL {i : Nat} {p : Addr} (h : σ[i]? = some (some (.ref p))) (e : SqL K H p xs) : EL (tCB (rLst K) (tCons (tVar i) tNil)) σ H xs := el_cb (ea_cons (ei_var h) ea_nil) fun _ s _ q => ⟨p, xs, rfl, .inl (s.seq e), fun l hl => q l _ (same_upd hl) upd_same⟩
theorem el_listT {i : Nat} {p : Addr} (h : σ[i]? = some (some (.ref p))) (e : SqT K H p xs) : EL (tCB (rLst K) (tCons (tVar i) tNil)) σ H xs := el_cb (ea_cons (ei_var h) ea_nil) fun _ s _ q => ⟨p, xs, rfl, .inr (sqt_same s e), fun l hl => q l _ (same_upd hl) upd_same⟩
/-- x = an expression that gives a list -/
theorem EL.use {Q : VK} (h : EL te σ H xs) (k : ∀ p H', Same H H' → H' p = some (.lst xs) → Q (.ref p) H') : te σ H Q := h H (Same.refl _) Q k
theorem EN.use {Q : VK} (h : EN te σ H xs) (k : ∀ p H', H p = none → Same H H' → H' p = some (.lst xs) → Q (.ref p) H') : te σ H Q := h H (Same.refl _) Q k
theorem EI.use {Q : VK} (h : EI te σ H v) (k : Q v H) : te σ H Q := h H (Same.refl _) Q k
end
/-- defaults: what is bound where keywords give the rest -/
theorem kb_one {K : PySem.W.Frag} {x qual : Str} {params : Arguments} {body : List Stmt} {scope : Scope} {dvs : List V} {f : Addr} {fd : FuncData} {ps : List Str} (F : FunD K x qual params body scope dvs [] f fd) (n : Nat) (ks : List Str) (hd : dvs ≠ [])
    (h : ∀ (T : Addr) (kV doc pm : Value) (an : Option Addr) (cdv ct : Value) (us ws its : List Value), us.length = n → ws.length = ks.length → its.length = dvs.length →
      ∃ k, bindArgs (PySem.W.fnOf x qual params body scope (.ref T) kV doc pm an cdv ct) ⟨us, ks.zip ws⟩ = seqItems? (.ref T) >>= k ∧ k (some its.toArray) = pure (ps.zip (us ++ ws))) :
    KBn K fd ps n ks (fun us ws => us ++ ws) (fun vs zs => vs ++ zs) := by
  obtain ⟨oc, od, dV, kV, doc, pm, an, cdv, ct, osl, rfl, lk, hcd, hD, hK⟩ := F.ex
  rcases hD with ⟨e, _⟩ | ⟨_, T, o, its, m, rfl, lT, oT, rT⟩
  · exact absurd e hd
  · refine ⟨fun s us ws X h1 h2 => BindsTo.of_looks fun M => ?_, fun r1 r2 => r1.append r2⟩
    obtain ⟨k, e1, e2⟩ := h T kV doc pm an cdv ct us ws its h1 h2 rT.length.symm
    rw [e1]
    exact looks_items X lT oT (.of_pure e2)
theorem andV_use {ta tb : TE} {σ : L2.St} {H : Hp} {Q : VK} {x y : Bool} (h1 : EI ta σ H (.bl x)) (h2 : x = true → ∀ Q' : VK, (∀ H', Same H H' → Q' (.bl y) H') → tb σ H Q') (k : ∀ H', Same H H' → Q (.bl (x && y)) H') : tAndV ta tb σ H Q := by
  refine h1 H (Same.refl _) _ ⟨x, rfl, ?_⟩
  cases x with
  | true => exact (if_pos rfl).mpr (h2 rfl _ k)
  | false => exact (if_neg Bool.false_ne_true).mpr (k H (Same.refl _))
/-- what is locked and let go stands as it stood -/
theorem unlock {H H' : Hp} {d : Addr} {od : Obj} {u : HO} (e : H d = some u) (s : Same (upd H d (.frz od u)) H') : Same H (upd H' d u) := fun b o h => by
  by_cases hb : b = d
  · subst hb
    rw [upd_same, ← e]
    exact h
  · rw [upd_ne hb]
    exact s b o (by rw [upd_ne hb]; exact h)
theorem take_filter {α : Type} {l : List α} {i : Nat} {x : α} (f : α → Bool) (h : l[i]? = some x) : (l.take (i + 1)).filter f = (l.take i).filter f ++ if f x then [x] else [] := by
  rw [take_more h, List.filter_append]
  cases e : f x <;> simp [e]
/-- [e for k in d if t] over the keys of a dict, t and e change nothing -/
theorem lc_keys {td te : TE} {tt : TT} {s : Nat} {σ : L2.St} {H : Hp} {Q : VK} (d : Addr) (kvs : List (Key × V)) (f : Key → Bool) (g : Key → V) (e : H d = some (.dK kvs)) (hlen : kvs.length ≤ 90000)
    (htd : ∀ od, EI td σ (upd H d (.frz od (.dK kvs))) (.ref d))
    (hw : ∀ x, wipe ((wipe σ [s]).set s (some x)) [s] = wipe σ [s])
    (ht : ∀ (od : Obj) (i : Nat) (k : Key) (v : V) (G : Hp) (Q' : Bool → Hp → Prop), kvs[i]? = some (k, v) → Same (upd H d (.frz od (.dK kvs))) G → Q' (f k) G → tt ((wipe σ [s]).set s (some (kV k))) G Q')
    (he : ∀ (od : Obj) (i : Nat) (k : Key) (v : V) (G : Hp) (Q' : VK), kvs[i]? = some (k, v) → Same (upd H d (.frz od (.dK kvs))) G → Q' (g k) G → te ((wipe σ [s]).set s (some (kV k))) G Q')
    (k : ∀ D H', H D = none → Same H H' → H' D = some (.lst ((kvs.filter fun kv => f kv.1).map fun kv => g kv.1)) → Q (.ref D) H') : tLockE (tLc (iKeys td) (gName s) tt te [s]) σ H Q := by
  refine ⟨d, _, e, trivial, fun od => htd od _ (Same.refl _) _ ⟨d, od, rfl, .inl ⟨kvs, upd_same, fun D hD => ?_⟩⟩⟩
  have nD : D ≠ d := fun z => by rw [z, upd_same] at hD; cases hD
  have hD0 : H D = none := by rw [upd_ne nD] at hD; exact hD
  refine lc_it walk_keys (fun i G => Same (upd H d (.frz od (.dK kvs))) G ∧ G D = some (.lst (((kvs.take i).filter fun kv => f kv.1).map fun kv => g kv.1)))
    ⟨same_upd hD, upd_same⟩ (fun i G _ h => h.1 _ _ upd_same) (fun i x G G' hi hG hy => ?_) (fun G hG => ?_)
  · obtain ⟨rfl, key, v, hkv, rfl⟩ := hy
    have hfl : ((kvs.take i).filter fun kv => f kv.1).length ≤ 90000 := Nat.le_trans (List.length_filter_le _ _) (by rw [List.length_take]; omega)
    refine ⟨hw _, ht od i key v _ _ hkv hG.1 ?_⟩
    have hts := take_filter (fun kv : Key × V => f kv.1) hkv
    cases hf : f key with
    | true =>
      refine (if_pos rfl).mpr (he od i key v _ _ hkv hG.1 ⟨_, hG.2, szl (by rw [List.length_map]; omega), same_put hG.1 hD, ?_⟩)
      rw [upd_same, hts, List.map_append]
      simp only [hf, if_true]
      rfl
    | false =>
      refine (if_neg Bool.false_ne_true).mpr ⟨hG.1, ?_⟩
      rw [hts]
      simp only [hf, Bool.false_eq_true, if_false, List.append_nil]
      exact hG.2
  · rw [List.take_length] at hG
    refine ⟨hG.1 _ _ upd_same, k D _ hD0 (unlock e hG.1) ?_⟩
    rw [upd_ne nD]
    exact hG.2
theorem put_fresh {kvs : List (Key × V)} {k : Key} {v : V} (h : ∀ kv ∈ kvs, kv.1 ≠ k) : putK kvs k v = kvs ++ [(k, v)] := by
  unfold putK
  rw [if_neg]
  intro z
  obtain ⟨kv, hm, hk⟩ := List.any_eq_true.mp z
  exact h kv hm (of_decide_eq_true hk)
theorem nd_ne {α β : Type} {l : List (α × β)} {i : Nat} {x : α × β} (nd : (l.map (·.1)).Nodup) (h : l[i]? = some x) : ∀ y ∈ l.take i, y.1 ≠ x.1 := fun y hy z => by
  obtain ⟨j, hj, rfl⟩ := List.getElem_of_mem hy
  rw [List.length_take] at hj
  rw [List.getElem_take] at z
  obtain ⟨hi, rfl⟩ := List.getElem?_eq_some_iff.mp h
  have e1 : (l.map (·.1))[j]? = some l[i].1 := by rw [List.getElem?_map, List.getElem?_eq_getElem (by omega), ← z]; rfl
  have e2 : (l.map (·.1))[i]? = some l[i].1 := by rw [List.getElem?_map, List.getElem?_eq_getElem hi]; rfl
  have := nd_ix nd e1 e2
  omega
/-- {k: e for k in d if t} over the keys of a dict -/
theorem dc_keys {td tv : TE} {tt : TT} {s : Nat} {σ : L2.St} {H : Hp} {Q : VK} (d : Addr) (kvs : List (Key × V)) (f : Key → Bool) (g : Key × V → V) (e : H d = some (.dK kvs)) (hlen : kvs.length ≤ 90000) (nd : (kvs.map (·.1)).Nodup)
    (htd : ∀ od, EI td σ (upd H d (.frz od (.dK kvs))) (.ref d))
    (hw : ∀ x, wipe ((wipe σ [s]).set s (some x)) [s] = wipe σ [s])
    (ht : ∀ (od : Obj) (i : Nat) (k : Key) (v : V) (G : Hp) (Q' : Bool → Hp → Prop), kvs[i]? = some (k, v) → Same (upd H d (.frz od (.dK kvs))) G → Q' (f k) G → tt ((wipe σ [s]).set s (some (kV k))) G Q')
    (he : ∀ (od : Obj) (i : Nat) (k : Key) (v : V) (G : Hp) (Q' : VK), kvs[i]? = some (k, v) → f k = true → Same (upd H d (.frz od (.dK kvs))) G → Q' (g (k, v)) G → tv ((wipe σ [s]).set s (some (kV k))) G Q')
    (hn : ∀ i, (wipe σ [s]).length = i → s < i)
    (k : ∀ D H', H D = none → Same H H' → H' D = some (.dK ((kvs.filter fun kv => f kv.1).map fun kv => (kv.1, g kv))) → Q (.ref D) H') : tLockE (tDc (iKeys td) (gName s) tt (tVar s) tv [s]) σ H Q := by
  have hs : s < (wipe σ [s]).length := hn _ rfl
  refine ⟨d, _, e, trivial, fun od => htd od _ (Same.refl _) _ ⟨d, od, rfl, .inl ⟨kvs, upd_same, fun D hD => ?_⟩⟩⟩
  have nD : D ≠ d := fun z => by rw [z, upd_same] at hD; cases hD
  have hD0 : H D = none := by rw [upd_ne nD] at hD; exact hD
  let Pv : Nat → Hp → Prop := fun i G => Same (upd H d (.frz od (.dK kvs))) G ∧ G D = some (.dK (((kvs.take i).filter fun kv => f kv.1).map fun kv => (kv.1, g kv)))
  have step : ∀ i x G G', i < kvs.length → Pv i G → (G' = G ∧ ∃ k v, kvs[i]? = some (k, v) ∧ x = kV k) → gName s x (wipe σ [s]) G' fun σ2 H2 => wipe σ2 [s] = wipe σ [s] ∧ tt σ2 H2 fun b H3 =>
      if b = true then tVar s σ2 H3 fun y H4 => tv σ2 H4 fun z H5 => ∃ kvs' k', y = kV k' ∧ H5 D = some (.dK kvs') ∧ kvs'.length < sizeLine ∧ Pv (i + 1) (upd H5 D (.dK (putK kvs' k' z))) else Pv (i + 1) H3 := fun i x G G' hi hG hy => by
    obtain ⟨rfl, key, v, hkv, rfl⟩ := hy
    have hfl : ((kvs.take i).filter fun kv => f kv.1).length ≤ 90000 := Nat.le_trans (List.length_filter_le _ _) (by rw [List.length_take]; omega)
    refine ⟨hw _, ht od i key v _ _ hkv hG.1 ?_⟩
    have hts := take_filter (fun kv : Key × V => f kv.1) hkv
    cases hf : f key with
    | true =>
      refine (if_pos rfl).mpr ⟨kV key, by rw [List.getElem?_set_self hs], he od i key v _ _ hkv hf hG.1 ⟨_, key, rfl, hG.2, szl (by rw [List.length_map]; omega), same_put hG.1 hD, ?_⟩⟩
      rw [upd_same, hts, List.map_append, put_fresh]
      · simp only [hf, if_true]
        rfl
      · intro kv hm
        obtain ⟨y, hy, rfl⟩ := List.mem_map.mp hm
        exact nd_ne nd hkv y (List.mem_filter.mp hy).1
    | false =>
      refine (if_neg Bool.false_ne_true).mpr ⟨hG.1, ?_⟩
      rw [hts]
      simp only [hf, Bool.false_eq_true, if_false, List.append_nil]
      exact hG.2
  refine ⟨fun i m G => m = kvs.length - i ∧ i ≤ kvs.length ∧ Pv i G, ⟨kvs.length, by simp, Nat.zero_le _, same_upd hD, upd_same⟩, ?_⟩
  rintro i m G ⟨rfl, hi, hP⟩
  by_cases hlt : i < kvs.length
  · exact .inr ⟨⟨hP.1 _ _ upd_same, hlt⟩, Pv (i + 1), fun G' p' => ⟨kvs.length - (i + 1), by omega, rfl, hlt, p'⟩, fun x G' y => step i x G G' hlt hP y⟩
  · have ei : i = kvs.length := by omega
    subst ei
    obtain ⟨h1, h2⟩ := hP
    rw [List.take_length] at h2
    refine .inl ⟨⟨h1 _ _ upd_same, Nat.le_refl _⟩, h1 _ _ upd_same, k D _ hD0 (unlock e h1) ?_⟩
    rw [upd_ne nD]
    exact h2
/-! the same within a comprehension -/
section
variable {K : PySem.W.Frag} {X : Cx} {pos : Pos}
theorem pgK_tup {es : List Expr} {k : Nat} {t : TGs} {n : Nat} (hK : X.K = K) (hc : X.calm = true) (h : PGs X es t)
    (hn : (assignEach es X.env).length = n := by rfl) (hst : (assignEach es X.env).findIdx? (·.1) = none := by rfl) : PG X (.Tuple es k pos) (gTup K n t) := by subst hK; exact pg_tup hc h hn hst
theorem opK_in (h : X.K = K) : OpR X (compareOp .In) (rIn K false) := by subst h; exact op_in_seq
theorem opK_notIn (h : X.K = K) : OpR X (compareOp .NotIn) (rIn K true) := by subst h; exact op_notIn_seq
theorem opK_eqD (h : X.K = K) (hu : X.A.units + 64 < cLine) : OpR X (compareOp .Eq) (rEqD K) := by subst h; exact op_eqD hu
theorem opK_neD (h : X.K = K) (hu : X.A.units + 64 < cLine) : OpR X (compareOp .NotEq) (rNeD K) := by subst h; exact op_neD hu
theorem callK_isi (h : X.K = K) : CallR X (.builtin "isinstance") (rIsi K) := by subst h; exact call_isi
theorem slK_tup (h : X.K = K) : SlR X (rSlT K) := by subst h; exact sl_tup
end
end My
local macro_rules | `(tactic| walk_at "go") => `(tactic| try dsimp only [L2.gName, L2.tSeq, L2.tAsg, L2.tNext, L2.tDrop])
namespace My
open PySem PySem.Spec PyProof.Rows L2
def topS (i : Nat) : Stmt := PySem.Challenge.pw_majordomo_k71_assumed_binds.main.body.getD i (.Pass ⟨0, 0, 0, 0⟩)
abbrev s_Assumed___init__ : Stmt := (inClass (topS 4) 0)
theorem sc_Assumed___init__ : FnScope ["self"] ["self"] (defScope s_Assumed___init__) := ⟨rfl, rfl, rfl, by decide +kernel, rfl, by decide +kernel, by decide +kernel⟩
abbrev s_Assumed_add : Stmt := (inClass (topS 4) 1)
theorem sc_Assumed_add : FnScope ["self", "task", "node", "size", "service_born"] ["self", "task", "node", "size", "service_born"] (defScope s_Assumed_add) := ⟨rfl, rfl, rfl, by decide +kernel, rfl, by decide +kernel, by decide +kernel⟩
abbrev s_Assumed_done : Stmt := (inClass (topS 4) 2)
theorem sc_Assumed_done : FnScope ["self", "task", "revision"] ["self", "task", "revision"] (defScope s_Assumed_done) := ⟨rfl, rfl, rfl, by decide +kernel, rfl, by decide +kernel, by decide +kernel⟩
abbrev s_Assumed_drop : Stmt := (inClass (topS 4) 3)
theorem sc_Assumed_drop : FnScope ["self", "task"] ["self", "task"] (defScope s_Assumed_drop) := ⟨rfl, rfl, rfl, by decide +kernel, rfl, by decide +kernel, by decide +kernel⟩
abbrev s_Assumed_settle : Stmt := (inClass (topS 4) 4)
theorem sc_Assumed_settle : FnScope ["self", "revision", "task"] ["self", "revision"] (defScope s_Assumed_settle) := ⟨rfl, rfl, rfl, by decide +kernel, rfl, by decide +kernel, by decide +kernel⟩
abbrev s_Assumed_has : Stmt := (inClass (topS 4) 5)
theorem sc_Assumed_has : FnScope ["self", "task"] ["self", "task"] (defScope s_Assumed_has) := ⟨rfl, rfl, rfl, by decide +kernel, rfl, by decide +kernel, by decide +kernel⟩
abbrev s_Assumed_size_on : Stmt := (inClass (topS 4) 6)
theorem sc_Assumed_size_on : FnScope ["self", "node", "task"] ["self", "node"] (defScope s_Assumed_size_on) := ⟨rfl, rfl, rfl, by decide +kernel, rfl, by decide +kernel, by decide +kernel⟩
abbrev s_Assumed_count_on : Stmt := (inClass (topS 4) 7)
theorem sc_Assumed_count_on : FnScope ["self", "node", "service_born", "binds", "task", "bind"] ["self", "node", "service_born"] (defScope s_Assumed_count_on) := ⟨rfl, rfl, rfl, by decide +kernel, rfl, by decide +kernel, by decide +kernel⟩
abbrev s_Assumed_names : Stmt := (inClass (topS 4) 8)
theorem sc_Assumed_names : FnScope ["self"] ["self"] (defScope s_Assumed_names) := ⟨rfl, rfl, rfl, by decide +kernel, rfl, by decide +kernel, by decide +kernel⟩
abbrev s__law_number : Stmt := (topS 6)
theorem sc__law_number : FnScope ["script", "k", "cell"] ["script", "k"] (defScope s__law_number) := ⟨rfl, rfl, rfl, by decide +kernel, rfl, by decide +kernel, by decide +kernel⟩
abbrev s__law_digits : Stmt := (topS 7)
theorem sc__law_digits : FnScope ["script", "k", "sizes", "number", "digits", "size"] ["script", "k", "sizes"] (defScope s__law_digits) := ⟨rfl, rfl, rfl, by decide +kernel, rfl, by decide +kernel, by decide +kernel⟩
abbrev s__law_add : Stmt := (topS 8)
theorem sc__law_add : FnScope ["rows", "row", "old"] ["rows", "row"] (defScope s__law_add) := ⟨rfl, rfl, rfl, by decide +kernel, rfl, by decide +kernel, by decide +kernel⟩
abbrev s__law_deed : Stmt := (topS 9)
theorem sc__law_deed : FnScope ["assumed", "rows", "digits", "tasks", "nodes", "task", "row"] ["assumed", "rows", "digits"] (defScope s__law_deed) := ⟨rfl, rfl, rfl, by decide +kernel, rfl, by decide +kernel, by decide +kernel⟩
abbrev s__law_agrees : Stmt := (topS 10)
theorem sc__law_agrees : FnScope ["assumed", "rows", "names", "task", "due", "node", "born", "mine", "row"] ["assumed", "rows"] (defScope s__law_agrees) := ⟨rfl, rfl, rfl, by decide +kernel, rfl, by decide +kernel, by decide +kernel⟩
abbrev s_law : Stmt := (topS 11)
theorem sc_law : FnScope ["script", "assumed", "other", "rows", "k", "digits"] ["script"] (defScope s_law) := ⟨rfl, rfl, rfl, by decide +kernel, rfl, by decide +kernel, by decide +kernel⟩

structure TX (K : PySem.W.Frag) (mg : Str → Option Value) where
  a_Assumed : Addr
  a_Assumed___init__ : Addr
  d_Assumed___init__ : FuncData
  F_Assumed___init__ : Fun K "__init__" "Assumed.__init__" s_Assumed___init__ a_Assumed___init__ d_Assumed___init__
  b_Assumed___init__ : Binds K d_Assumed___init__ ["self"] []
  a_Assumed_add : Addr
  d_Assumed_add : FuncData
  F_Assumed_add : Fun K "add" "Assumed.add" s_Assumed_add a_Assumed_add d_Assumed_add
  b_Assumed_add : Binds K d_Assumed_add ["self", "task", "node", "size", "service_born"] []
  m_Assumed_add : Meth K a_Assumed "add" a_Assumed_add
  a_Assumed_done : Addr
  d_Assumed_done : FuncData
  F_Assumed_done : Fun K "done" "Assumed.done" s_Assumed_done a_Assumed_done d_Assumed_done
  b_Assumed_done : Binds K d_Assumed_done ["self", "task", "revision"] []
  m_Assumed_done : Meth K a_Assumed "done" a_Assumed_done
  a_Assumed_drop : Addr
  d_Assumed_drop : FuncData
  F_Assumed_drop : Fun K "drop" "Assumed.drop" s_Assumed_drop a_Assumed_drop d_Assumed_drop
  b_Assumed_drop : Binds K d_Assumed_drop ["self", "task"] []
  m_Assumed_drop : Meth K a_Assumed "drop" a_Assumed_drop
  a_Assumed_settle : Addr
  d_Assumed_settle : FuncData
  F_Assumed_settle : Fun K "settle" "Assumed.settle" s_Assumed_settle a_Assumed_settle d_Assumed_settle
  b_Assumed_settle : Binds K d_Assumed_settle ["self", "revision"] []
  m_Assumed_settle : Meth K a_Assumed "settle" a_Assumed_settle
  a_Assumed_has : Addr
  d_Assumed_has : FuncData
  F_Assumed_has : Fun K "has" "Assumed.has" s_Assumed_has a_Assumed_has d_Assumed_has
  b_Assumed_has : Binds K d_Assumed_has ["self", "task"] []
  m_Assumed_has : Meth K a_Assumed "has" a_Assumed_has
  a_Assumed_size_on : Addr
  d_Assumed_size_on : FuncData
  F_Assumed_size_on : Fun K "size_on" "Assumed.size_on" s_Assumed_size_on a_Assumed_size_on d_Assumed_size_on
  b_Assumed_size_on : Binds K d_Assumed_size_on ["self", "node"] []
  m_Assumed_size_on : Meth K a_Assumed "size_on" a_Assumed_size_on
  a_Assumed_count_on : Addr
  d_Assumed_count_on : FuncData
  F_Assumed_count_on : Fun K "count_on" "Assumed.count_on" s_Assumed_count_on a_Assumed_count_on d_Assumed_count_on
  b_Assumed_count_on : Binds K d_Assumed_count_on ["self", "node", "service_born"] []
  m_Assumed_count_on : Meth K a_Assumed "count_on" a_Assumed_count_on
  a_Assumed_names : Addr
  d_Assumed_names : FuncData
  F_Assumed_names : Fun K "names" "Assumed.names" s_Assumed_names a_Assumed_names d_Assumed_names
  b_Assumed_names : Binds K d_Assumed_names ["self"] []
  m_Assumed_names : Meth K a_Assumed "names" a_Assumed_names
  a__law_number : Addr
  d__law_number : FuncData
  F__law_number : Fun K "_law_number" "_law_number" s__law_number a__law_number d__law_number
  b__law_number : Binds K d__law_number ["script", "k"] []
  g__law_number : mg "_law_number" = some (.ref a__law_number)
  a__law_digits : Addr
  d__law_digits : FuncData
  F__law_digits : Fun K "_law_digits" "_law_digits" s__law_digits a__law_digits d__law_digits
  b__law_digits : Binds K d__law_digits ["script", "k", "sizes"] []
  g__law_digits : mg "_law_digits" = some (.ref a__law_digits)
  a__law_add : Addr
  d__law_add : FuncData
  F__law_add : Fun K "_law_add" "_law_add" s__law_add a__law_add d__law_add
  b__law_add : Binds K d__law_add ["rows", "row"] []
  g__law_add : mg "_law_add" = some (.ref a__law_add)
  a__law_deed : Addr
  d__law_deed : FuncData
  F__law_deed : Fun K "_law_deed" "_law_deed" s__law_deed a__law_deed d__law_deed
  b__law_deed : Binds K d__law_deed ["assumed", "rows", "digits"] []
  g__law_deed : mg "_law_deed" = some (.ref a__law_deed)
  a__law_agrees : Addr
  d__law_agrees : FuncData
  F__law_agrees : Fun K "_law_agrees" "_law_agrees" s__law_agrees a__law_agrees d__law_agrees
  b__law_agrees : Binds K d__law_agrees ["assumed", "rows"] []
  g__law_agrees : mg "_law_agrees" = some (.ref a__law_agrees)
  a_law : Addr
  d_law : FuncData
  F_law : Fun K "law" "law" s_law a_law d_law
  b_law : Binds K d_law ["script"] []
  g_law : mg "law" = some (.ref a_law)
  K_Assumed : Cls K a_Assumed
  g_Assumed : mg "Assumed" = some (.ref a_Assumed)
  M_Assumed : Mk K a_Assumed a_Assumed___init__
  na_Assumed__binds : NoAttr K a_Assumed "_binds"
  na_Assumed__revisions : NoAttr K a_Assumed "_revisions"
  t_NODE : Tok
  c_NODE : mg "NODE" = some (.int 0 t_NODE)
  t_SIZE : Tok
  c_SIZE : mg "SIZE" = some (.int 1 t_SIZE)
  t_SERVICE_BORN : Tok
  c_SERVICE_BORN : mg "SERVICE_BORN" = some (.int 2 t_SERVICE_BORN)
  n_len : mg "len" = none
  n_abs : mg "abs" = none
  n_int : mg "int" = none
  n_sorted : mg "sorted" = none
  n_sum : mg "sum" = none
  n_range : mg "range" = none
  n_min : mg "min" = none

theorem ne_Assumed__binds__revisions : (Str.ofString "_binds" == Str.ofString "_revisions") = false := by decide +kernel
theorem ne_Assumed__binds__revisions_p : ¬ (Str.ofString "_binds" = Str.ofString "_revisions") := by decide +kernel
theorem ne_Assumed__revisions__binds : (Str.ofString "_revisions" == Str.ofString "_binds") = false := by decide +kernel
theorem ne_Assumed__revisions__binds_p : ¬ (Str.ofString "_revisions" = Str.ofString "_binds") := by decide +kernel
theorem ne_Assumed_add__binds : (Str.ofString "add" == Str.ofString "_binds") = false := by decide +kernel
theorem ne_Assumed_add__binds_p : ¬ (Str.ofString "add" = Str.ofString "_binds") := by decide +kernel
theorem ne_Assumed_add__revisions : (Str.ofString "add" == Str.ofString "_revisions") = false := by decide +kernel
theorem ne_Assumed_add__revisions_p : ¬ (Str.ofString "add" = Str.ofString "_revisions") := by decide +kernel
theorem ne_Assumed_done__binds : (Str.ofString "done" == Str.ofString "_binds") = false := by decide +kernel
theorem ne_Assumed_done__binds_p : ¬ (Str.ofString "done" = Str.ofString "_binds") := by decide +kernel
theorem ne_Assumed_done__revisions : (Str.ofString "done" == Str.ofString "_revisions") = false := by decide +kernel
theorem ne_Assumed_done__revisions_p : ¬ (Str.ofString "done" = Str.ofString "_revisions") := by decide +kernel
theorem ne_Assumed_drop__binds : (Str.ofString "drop" == Str.ofString "_binds") = false := by decide +kernel
theorem ne_Assumed_drop__binds_p : ¬ (Str.ofString "drop" = Str.ofString "_binds") := by decide +kernel
theorem ne_Assumed_drop__revisions : (Str.ofString "drop" == Str.ofString "_revisions") = false := by decide +kernel
theorem ne_Assumed_drop__revisions_p : ¬ (Str.ofString "drop" = Str.ofString "_revisions") := by decide +kernel
theorem ne_Assumed_settle__binds : (Str.ofString "settle" == Str.ofString "_binds") = false := by decide +kernel
theorem ne_Assumed_settle__binds_p : ¬ (Str.ofString "settle" = Str.ofString "_binds") := by decide +kernel
theorem ne_Assumed_settle__revisions : (Str.ofString "settle" == Str.ofString "_revisions") = false := by decide +kernel
theorem ne_Assumed_settle__revisions_p : ¬ (Str.ofString "settle" = Str.ofString "_revisions") := by decide +kernel
theorem ne_Assumed_has__binds : (Str.ofString "has" == Str.ofString "_binds") = false := by decide +kernel
theorem ne_Assumed_has__binds_p : ¬ (Str.ofString "has" = Str.ofString "_binds") := by decide +kernel
theorem ne_Assumed_has__revisions : (Str.ofString "has" == Str.ofString "_revisions") = false := by decide +kernel
theorem ne_Assumed_has__revisions_p : ¬ (Str.ofString "has" = Str.ofString "_revisions") := by decide +kernel
theorem ne_Assumed_size_on__binds : (Str.ofString "size_on" == Str.ofString "_binds") = false := by decide +kernel
theorem ne_Assumed_size_on__binds_p : ¬ (Str.ofString "size_on" = Str.ofString "_binds") := by decide +kernel
theorem ne_Assumed_size_on__revisions : (Str.ofString "size_on" == Str.ofString "_revisions") = false := by decide +kernel
theorem ne_Assumed_size_on__revisions_p : ¬ (Str.ofString "size_on" = Str.ofString "_revisions") := by decide +kernel
theorem ne_Assumed_count_on__binds : (Str.ofString "count_on" == Str.ofString "_binds") = false := by decide +kernel
theorem ne_Assumed_count_on__binds_p : ¬ (Str.ofString "count_on" = Str.ofString "_binds") := by decide +kernel
theorem ne_Assumed_count_on__revisions : (Str.ofString "count_on" == Str.ofString "_revisions") = false := by decide +kernel
theorem ne_Assumed_count_on__revisions_p : ¬ (Str.ofString "count_on" = Str.ofString "_revisions") := by decide +kernel
theorem ne_Assumed_names__binds : (Str.ofString "names" == Str.ofString "_binds") = false := by decide +kernel
theorem ne_Assumed_names__binds_p : ¬ (Str.ofString "names" = Str.ofString "_binds") := by decide +kernel
theorem ne_Assumed_names__revisions : (Str.ofString "names" == Str.ofString "_revisions") = false := by decide +kernel
theorem ne_Assumed_names__revisions_p : ¬ (Str.ofString "names" = Str.ofString "_revisions") := by decide +kernel
/-- the attributes of a Assumed, in the order in which they are stored -/
def fl_Assumed (v0 v1 : V) : List (Str × V) := [("_binds", v0), ("_revisions", v1)]
theorem fl_Assumed__binds {v0 v1 : V} : (fl_Assumed v0 v1).lookup ("_binds" : Str) = some v0 := by unfold fl_Assumed; simp [List.lookup, ne_Assumed__binds__revisions, ne_Assumed__revisions__binds, ne_Assumed_add__binds, ne_Assumed_add__revisions, ne_Assumed_done__binds, ne_Assumed_done__revisions, ne_Assumed_drop__binds, ne_Assumed_drop__revisions, ne_Assumed_settle__binds, ne_Assumed_settle__revisions, ne_Assumed_has__binds, ne_Assumed_has__revisions, ne_Assumed_size_on__binds, ne_Assumed_size_on__revisions, ne_Assumed_count_on__binds, ne_Assumed_count_on__revisions, ne_Assumed_names__binds, ne_Assumed_names__revisions, ne_Assumed__binds__revisions_p, ne_Assumed__revisions__binds_p, ne_Assumed_add__binds_p, ne_Assumed_add__revisions_p, ne_Assumed_done__binds_p, ne_Assumed_done__revisions_p, ne_Assumed_drop__binds_p, ne_Assumed_drop__revisions_p, ne_Assumed_settle__binds_p, ne_Assumed_settle__revisions_p, ne_Assumed_has__binds_p, ne_Assumed_has__revisions_p, ne_Assumed_size_on__binds_p, ne_Assumed_size_on__revisions_p, ne_Assumed_count_on__binds_p, ne_Assumed_count_on__revisions_p, ne_Assumed_names__binds_p, ne_Assumed_names__revisions_p]
theorem pf_Assumed__binds {v0 v1 x : V} : putF ("_binds" : Str) x (fl_Assumed v0 v1) = fl_Assumed x v1 := by unfold fl_Assumed; simp [putF, ne_Assumed__binds__revisions, ne_Assumed__revisions__binds, ne_Assumed_add__binds, ne_Assumed_add__revisions, ne_Assumed_done__binds, ne_Assumed_done__revisions, ne_Assumed_drop__binds, ne_Assumed_drop__revisions, ne_Assumed_settle__binds, ne_Assumed_settle__revisions, ne_Assumed_has__binds, ne_Assumed_has__revisions, ne_Assumed_size_on__binds, ne_Assumed_size_on__revisions, ne_Assumed_count_on__binds, ne_Assumed_count_on__revisions, ne_Assumed_names__binds, ne_Assumed_names__revisions, ne_Assumed__binds__revisions_p, ne_Assumed__revisions__binds_p, ne_Assumed_add__binds_p, ne_Assumed_add__revisions_p, ne_Assumed_done__binds_p, ne_Assumed_done__revisions_p, ne_Assumed_drop__binds_p, ne_Assumed_drop__revisions_p, ne_Assumed_settle__binds_p, ne_Assumed_settle__revisions_p, ne_Assumed_has__binds_p, ne_Assumed_has__revisions_p, ne_Assumed_size_on__binds_p, ne_Assumed_size_on__revisions_p, ne_Assumed_count_on__binds_p, ne_Assumed_count_on__revisions_p, ne_Assumed_names__binds_p, ne_Assumed_names__revisions_p]
theorem fl_Assumed__revisions {v0 v1 : V} : (fl_Assumed v0 v1).lookup ("_revisions" : Str) = some v1 := by unfold fl_Assumed; simp [List.lookup, ne_Assumed__binds__revisions, ne_Assumed__revisions__binds, ne_Assumed_add__binds, ne_Assumed_add__revisions, ne_Assumed_done__binds, ne_Assumed_done__revisions, ne_Assumed_drop__binds, ne_Assumed_drop__revisions, ne_Assumed_settle__binds, ne_Assumed_settle__revisions, ne_Assumed_has__binds, ne_Assumed_has__revisions, ne_Assumed_size_on__binds, ne_Assumed_size_on__revisions, ne_Assumed_count_on__binds, ne_Assumed_count_on__revisions, ne_Assumed_names__binds, ne_Assumed_names__revisions, ne_Assumed__binds__revisions_p, ne_Assumed__revisions__binds_p, ne_Assumed_add__binds_p, ne_Assumed_add__revisions_p, ne_Assumed_done__binds_p, ne_Assumed_done__revisions_p, ne_Assumed_drop__binds_p, ne_Assumed_drop__revisions_p, ne_Assumed_settle__binds_p, ne_Assumed_settle__revisions_p, ne_Assumed_has__binds_p, ne_Assumed_has__revisions_p, ne_Assumed_size_on__binds_p, ne_Assumed_size_on__revisions_p, ne_Assumed_count_on__binds_p, ne_Assumed_count_on__revisions_p, ne_Assumed_names__binds_p, ne_Assumed_names__revisions_p]
theorem pf_Assumed__revisions {v0 v1 x : V} : putF ("_revisions" : Str) x (fl_Assumed v0 v1) = fl_Assumed v0 x := by unfold fl_Assumed; simp [putF, ne_Assumed__binds__revisions, ne_Assumed__revisions__binds, ne_Assumed_add__binds, ne_Assumed_add__revisions, ne_Assumed_done__binds, ne_Assumed_done__revisions, ne_Assumed_drop__binds, ne_Assumed_drop__revisions, ne_Assumed_settle__binds, ne_Assumed_settle__revisions, ne_Assumed_has__binds, ne_Assumed_has__revisions, ne_Assumed_size_on__binds, ne_Assumed_size_on__revisions, ne_Assumed_count_on__binds, ne_Assumed_count_on__revisions, ne_Assumed_names__binds, ne_Assumed_names__revisions, ne_Assumed__binds__revisions_p, ne_Assumed__revisions__binds_p, ne_Assumed_add__binds_p, ne_Assumed_add__revisions_p, ne_Assumed_done__binds_p, ne_Assumed_done__revisions_p, ne_Assumed_drop__binds_p, ne_Assumed_drop__revisions_p, ne_Assumed_settle__binds_p, ne_Assumed_settle__revisions_p, ne_Assumed_has__binds_p, ne_Assumed_has__revisions_p, ne_Assumed_size_on__binds_p, ne_Assumed_size_on__revisions_p, ne_Assumed_count_on__binds_p, ne_Assumed_count_on__revisions_p, ne_Assumed_names__binds_p, ne_Assumed_names__revisions_p]
theorem fl_Assumed_no_add {v0 v1 : V} : (fl_Assumed v0 v1).lookup ("add" : Str) = none := by unfold fl_Assumed; simp [List.lookup, ne_Assumed__binds__revisions, ne_Assumed__revisions__binds, ne_Assumed_add__binds, ne_Assumed_add__revisions, ne_Assumed_done__binds, ne_Assumed_done__revisions, ne_Assumed_drop__binds, ne_Assumed_drop__revisions, ne_Assumed_settle__binds, ne_Assumed_settle__revisions, ne_Assumed_has__binds, ne_Assumed_has__revisions, ne_Assumed_size_on__binds, ne_Assumed_size_on__revisions, ne_Assumed_count_on__binds, ne_Assumed_count_on__revisions, ne_Assumed_names__binds, ne_Assumed_names__revisions, ne_Assumed__binds__revisions_p, ne_Assumed__revisions__binds_p, ne_Assumed_add__binds_p, ne_Assumed_add__revisions_p, ne_Assumed_done__binds_p, ne_Assumed_done__revisions_p, ne_Assumed_drop__binds_p, ne_Assumed_drop__revisions_p, ne_Assumed_settle__binds_p, ne_Assumed_settle__revisions_p, ne_Assumed_has__binds_p, ne_Assumed_has__revisions_p, ne_Assumed_size_on__binds_p, ne_Assumed_size_on__revisions_p, ne_Assumed_count_on__binds_p, ne_Assumed_count_on__revisions_p, ne_Assumed_names__binds_p, ne_Assumed_names__revisions_p]
theorem fl_Assumed_no_done {v0 v1 : V} : (fl_Assumed v0 v1).lookup ("done" : Str) = none := by unfold fl_Assumed; simp [List.lookup, ne_Assumed__binds__revisions, ne_Assumed__revisions__binds, ne_Assumed_add__binds, ne_Assumed_add__revisions, ne_Assumed_done__binds, ne_Assumed_done__revisions, ne_Assumed_drop__binds, ne_Assumed_drop__revisions, ne_Assumed_settle__binds, ne_Assumed_settle__revisions, ne_Assumed_has__binds, ne_Assumed_has__revisions, ne_Assumed_size_on__binds, ne_Assumed_size_on__revisions, ne_Assumed_count_on__binds, ne_Assumed_count_on__revisions, ne_Assumed_names__binds, ne_Assumed_names__revisions, ne_Assumed__binds__revisions_p, ne_Assumed__revisions__binds_p, ne_Assumed_add__binds_p, ne_Assumed_add__revisions_p, ne_Assumed_done__binds_p, ne_Assumed_done__revisions_p, ne_Assumed_drop__binds_p, ne_Assumed_drop__revisions_p, ne_Assumed_settle__binds_p, ne_Assumed_settle__revisions_p, ne_Assumed_has__binds_p, ne_Assumed_has__revisions_p, ne_Assumed_size_on__binds_p, ne_Assumed_size_on__revisions_p, ne_Assumed_count_on__binds_p, ne_Assumed_count_on__revisions_p, ne_Assumed_names__binds_p, ne_Assumed_names__revisions_p]
theorem fl_Assumed_no_drop {v0 v1 : V} : (fl_Assumed v0 v1).lookup ("drop" : Str) = none := by unfold fl_Assumed; simp [List.lookup, ne_Assumed__binds__revisions, ne_Assumed__revisions__binds, ne_Assumed_add__binds, ne_Assumed_add__revisions, ne_Assumed_done__binds, ne_Assumed_done__revisions, ne_Assumed_drop__binds, ne_Assumed_drop__revisions, ne_Assumed_settle__binds, ne_Assumed_settle__revisions, ne_Assumed_has__binds, ne_Assumed_has__revisions, ne_Assumed_size_on__binds, ne_Assumed_size_on__revisions, ne_Assumed_count_on__binds, ne_Assumed_count_on__revisions, ne_Assumed_names__binds, ne_Assumed_names__revisions, ne_Assumed__binds__revisions_p, ne_Assumed__revisions__binds_p, ne_Assumed_add__binds_p, ne_Assumed_add__revisions_p, ne_Assumed_done__binds_p, ne_Assumed_done__revisions_p, ne_Assumed_drop__binds_p, ne_Assumed_drop__revisions_p, ne_Assumed_settle__binds_p, ne_Assumed_settle__revisions_p, ne_Assumed_has__binds_p, ne_Assumed_has__revisions_p, ne_Assumed_size_on__binds_p, ne_Assumed_size_on__revisions_p, ne_Assumed_count_on__binds_p, ne_Assumed_count_on__revisions_p, ne_Assumed_names__binds_p, ne_Assumed_names__revisions_p]
theorem fl_Assumed_no_settle {v0 v1 : V} : (fl_Assumed v0 v1).lookup ("settle" : Str) = none := by unfold fl_Assumed; simp [List.lookup, ne_Assumed__binds__revisions, ne_Assumed__revisions__binds, ne_Assumed_add__binds, ne_Assumed_add__revisions, ne_Assumed_done__binds, ne_Assumed_done__revisions, ne_Assumed_drop__binds, ne_Assumed_drop__revisions, ne_Assumed_settle__binds, ne_Assumed_settle__revisions, ne_Assumed_has__binds, ne_Assumed_has__revisions, ne_Assumed_size_on__binds, ne_Assumed_size_on__revisions, ne_Assumed_count_on__binds, ne_Assumed_count_on__revisions, ne_Assumed_names__binds, ne_Assumed_names__revisions, ne_Assumed__binds__revisions_p, ne_Assumed__revisions__binds_p, ne_Assumed_add__binds_p, ne_Assumed_add__revisions_p, ne_Assumed_done__binds_p, ne_Assumed_done__revisions_p, ne_Assumed_drop__binds_p, ne_Assumed_drop__revisions_p, ne_Assumed_settle__binds_p, ne_Assumed_settle__revisions_p, ne_Assumed_has__binds_p, ne_Assumed_has__revisions_p, ne_Assumed_size_on__binds_p, ne_Assumed_size_on__revisions_p, ne_Assumed_count_on__binds_p, ne_Assumed_count_on__revisions_p, ne_Assumed_names__binds_p, ne_Assumed_names__revisions_p]
theorem fl_Assumed_no_has {v0 v1 : V} : (fl_Assumed v0 v1).lookup ("has" : Str) = none := by unfold fl_Assumed; simp [List.lookup, ne_Assumed__binds__revisions, ne_Assumed__revisions__binds, ne_Assumed_add__binds, ne_Assumed_add__revisions, ne_Assumed_done__binds, ne_Assumed_done__revisions, ne_Assumed_drop__binds, ne_Assumed_drop__revisions, ne_Assumed_settle__binds, ne_Assumed_settle__revisions, ne_Assumed_has__binds, ne_Assumed_has__revisions, ne_Assumed_size_on__binds, ne_Assumed_size_on__revisions, ne_Assumed_count_on__binds, ne_Assumed_count_on__revisions, ne_Assumed_names__binds, ne_Assumed_names__revisions, ne_Assumed__binds__revisions_p, ne_Assumed__revisions__binds_p, ne_Assumed_add__binds_p, ne_Assumed_add__revisions_p, ne_Assumed_done__binds_p, ne_Assumed_done__revisions_p, ne_Assumed_drop__binds_p, ne_Assumed_drop__revisions_p, ne_Assumed_settle__binds_p, ne_Assumed_settle__revisions_p, ne_Assumed_has__binds_p, ne_Assumed_has__revisions_p, ne_Assumed_size_on__binds_p, ne_Assumed_size_on__revisions_p, ne_Assumed_count_on__binds_p, ne_Assumed_count_on__revisions_p, ne_Assumed_names__binds_p, ne_Assumed_names__revisions_p]
theorem fl_Assumed_no_size_on {v0 v1 : V} : (fl_Assumed v0 v1).lookup ("size_on" : Str) = none := by unfold fl_Assumed; simp [List.lookup, ne_Assumed__binds__revisions, ne_Assumed__revisions__binds, ne_Assumed_add__binds, ne_Assumed_add__revisions, ne_Assumed_done__binds, ne_Assumed_done__revisions, ne_Assumed_drop__binds, ne_Assumed_drop__revisions, ne_Assumed_settle__binds, ne_Assumed_settle__revisions, ne_Assumed_has__binds, ne_Assumed_has__revisions, ne_Assumed_size_on__binds, ne_Assumed_size_on__revisions, ne_Assumed_count_on__binds, ne_Assumed_count_on__revisions, ne_Assumed_names__binds, ne_Assumed_names__revisions, ne_Assumed__binds__revisions_p, ne_Assumed__revisions__binds_p, ne_Assumed_add__binds_p, ne_Assumed_add__revisions_p, ne_Assumed_done__binds_p, ne_Assumed_done__revisions_p, ne_Assumed_drop__binds_p, ne_Assumed_drop__revisions_p, ne_Assumed_settle__binds_p, ne_Assumed_settle__revisions_p, ne_Assumed_has__binds_p, ne_Assumed_has__revisions_p, ne_Assumed_size_on__binds_p, ne_Assumed_size_on__revisions_p, ne_Assumed_count_on__binds_p, ne_Assumed_count_on__revisions_p, ne_Assumed_names__binds_p, ne_Assumed_names__revisions_p]
theorem fl_Assumed_no_count_on {v0 v1 : V} : (fl_Assumed v0 v1).lookup ("count_on" : Str) = none := by unfold fl_Assumed; simp [List.lookup, ne_Assumed__binds__revisions, ne_Assumed__revisions__binds, ne_Assumed_add__binds, ne_Assumed_add__revisions, ne_Assumed_done__binds, ne_Assumed_done__revisions, ne_Assumed_drop__binds, ne_Assumed_drop__revisions, ne_Assumed_settle__binds, ne_Assumed_settle__revisions, ne_Assumed_has__binds, ne_Assumed_has__revisions, ne_Assumed_size_on__binds, ne_Assumed_size_on__revisions, ne_Assumed_count_on__binds, ne_Assumed_count_on__revisions, ne_Assumed_names__binds, ne_Assumed_names__revisions, ne_Assumed__binds__revisions_p, ne_Assumed__revisions__binds_p, ne_Assumed_add__binds_p, ne_Assumed_add__revisions_p, ne_Assumed_done__binds_p, ne_Assumed_done__revisions_p, ne_Assumed_drop__binds_p, ne_Assumed_drop__revisions_p, ne_Assumed_settle__binds_p, ne_Assumed_settle__revisions_p, ne_Assumed_has__binds_p, ne_Assumed_has__revisions_p, ne_Assumed_size_on__binds_p, ne_Assumed_size_on__revisions_p, ne_Assumed_count_on__binds_p, ne_Assumed_count_on__revisions_p, ne_Assumed_names__binds_p, ne_Assumed_names__revisions_p]
theorem fl_Assumed_no_names {v0 v1 : V} : (fl_Assumed v0 v1).lookup ("names" : Str) = none := by unfold fl_Assumed; simp [List.lookup, ne_Assumed__binds__revisions, ne_Assumed__revisions__binds, ne_Assumed_add__binds, ne_Assumed_add__revisions, ne_Assumed_done__binds, ne_Assumed_done__revisions, ne_Assumed_drop__binds, ne_Assumed_drop__revisions, ne_Assumed_settle__binds, ne_Assumed_settle__revisions, ne_Assumed_has__binds, ne_Assumed_has__revisions, ne_Assumed_size_on__binds, ne_Assumed_size_on__revisions, ne_Assumed_count_on__binds, ne_Assumed_count_on__revisions, ne_Assumed_names__binds, ne_Assumed_names__revisions, ne_Assumed__binds__revisions_p, ne_Assumed__revisions__binds_p, ne_Assumed_add__binds_p, ne_Assumed_add__revisions_p, ne_Assumed_done__binds_p, ne_Assumed_done__revisions_p, ne_Assumed_drop__binds_p, ne_Assumed_drop__revisions_p, ne_Assumed_settle__binds_p, ne_Assumed_settle__revisions_p, ne_Assumed_has__binds_p, ne_Assumed_has__revisions_p, ne_Assumed_size_on__binds_p, ne_Assumed_size_on__revisions_p, ne_Assumed_count_on__binds_p, ne_Assumed_count_on__revisions_p, ne_Assumed_names__binds_p, ne_Assumed_names__revisions_p]
theorem fl_Assumed_new {v0 v1 : V} : putF ("_revisions" : Str) v1 (putF ("_binds" : Str) v0 ([])) = fl_Assumed v0 v1 := by unfold fl_Assumed; simp [putF, ne_Assumed__binds__revisions, ne_Assumed__revisions__binds, ne_Assumed_add__binds, ne_Assumed_add__revisions, ne_Assumed_done__binds, ne_Assumed_done__revisions, ne_Assumed_drop__binds, ne_Assumed_drop__revisions, ne_Assumed_settle__binds, ne_Assumed_settle__revisions, ne_Assumed_has__binds, ne_Assumed_has__revisions, ne_Assumed_size_on__binds, ne_Assumed_size_on__revisions, ne_Assumed_count_on__binds, ne_Assumed_count_on__revisions, ne_Assumed_names__binds, ne_Assumed_names__revisions, ne_Assumed__binds__revisions_p, ne_Assumed__revisions__binds_p, ne_Assumed_add__binds_p, ne_Assumed_add__revisions_p, ne_Assumed_done__binds_p, ne_Assumed_done__revisions_p, ne_Assumed_drop__binds_p, ne_Assumed_drop__revisions_p, ne_Assumed_settle__binds_p, ne_Assumed_settle__revisions_p, ne_Assumed_has__binds_p, ne_Assumed_has__revisions_p, ne_Assumed_size_on__binds_p, ne_Assumed_size_on__revisions_p, ne_Assumed_count_on__binds_p, ne_Assumed_count_on__revisions_p, ne_Assumed_names__binds_p, ne_Assumed_names__revisions_p]

/-- a statement that changes nothing, then the rest -/
theorem cut_same {t u : TS} {D : L2.Ends} {σ : L2.St} {H : Hp} (h1 : t { D with nx := fun σ' G => σ' = σ ∧ G = H } σ H) (h2 : u D σ H) : C8.tCut t u D σ H := ⟨_, h1, fun _ _ ⟨a, b⟩ => by rw [a, b]; exact h2⟩
/-- the slots written out -/
theorem nrm4 {t : TS} {D : L2.Ends} {σ : L2.St} {H : Hp} {a0 a1 a2 a3 : Option V} (e : σ = [a0, a1, a2, a3]) (h : t D [a0, a1, a2, a3] H) : t D σ H := by rw [e]; exact h
theorem nrm5 {t : TS} {D : L2.Ends} {σ : L2.St} {H : Hp} {a0 a1 a2 a3 a4 : Option V} (e : σ = [a0, a1, a2, a3, a4]) (h : t D [a0, a1, a2, a3, a4] H) : t D σ H := by rw [e]; exact h
theorem nrm6 {t : TS} {D : L2.Ends} {σ : L2.St} {H : Hp} {a0 a1 a2 a3 a4 a5 : Option V} (e : σ = [a0, a1, a2, a3, a4, a5]) (h : t D [a0, a1, a2, a3, a4, a5] H) : t D σ H := by rw [e]; exact h
theorem nrm7 {t : TS} {D : L2.Ends} {σ : L2.St} {H : Hp} {a0 a1 a2 a3 a4 a5 a6 : Option V} (e : σ = [a0, a1, a2, a3, a4, a5, a6]) (h : t D [a0, a1, a2, a3, a4, a5, a6] H) : t D σ H := by rw [e]; exact h
theorem nrm8 {t : TS} {D : L2.Ends} {σ : L2.St} {H : Hp} {a0 a1 a2 a3 a4 a5 a6 a7 : Option V} (e : σ = [a0, a1, a2, a3, a4, a5, a6, a7]) (h : t D [a0, a1, a2, a3, a4, a5, a6, a7] H) : t D σ H := by rw [e]; exact h
theorem nrm9 {t : TS} {D : L2.Ends} {σ : L2.St} {H : Hp} {a0 a1 a2 a3 a4 a5 a6 a7 a8 : Option V} (e : σ = [a0, a1, a2, a3, a4, a5, a6, a7, a8]) (h : t D [a0, a1, a2, a3, a4, a5, a6, a7, a8] H) : t D σ H := by rw [e]; exact h
theorem nrm10 {t : TS} {D : L2.Ends} {σ : L2.St} {H : Hp} {a0 a1 a2 a3 a4 a5 a6 a7 a8 a9 : Option V} (e : σ = [a0, a1, a2, a3, a4, a5, a6, a7, a8, a9]) (h : t D [a0, a1, a2, a3, a4, a5, a6, a7, a8, a9] H) : t D σ H := by rw [e]; exact h
theorem nrm11 {t : TS} {D : L2.Ends} {σ : L2.St} {H : Hp} {a0 a1 a2 a3 a4 a5 a6 a7 a8 a9 a10 : Option V} (e : σ = [a0, a1, a2, a3, a4, a5, a6, a7, a8, a9, a10]) (h : t D [a0, a1, a2, a3, a4, a5, a6, a7, a8, a9, a10] H) : t D σ H := by rw [e]; exact h
theorem nrm12 {t : TS} {D : L2.Ends} {σ : L2.St} {H : Hp} {a0 a1 a2 a3 a4 a5 a6 a7 a8 a9 a10 a11 : Option V} (e : σ = [a0, a1, a2, a3, a4, a5, a6, a7, a8, a9, a10, a11]) (h : t D [a0, a1, a2, a3, a4, a5, a6, a7, a8, a9, a10, a11] H) : t D σ H := by rw [e]; exact h
theorem nrm13 {t : TS} {D : L2.Ends} {σ : L2.St} {H : Hp} {a0 a1 a2 a3 a4 a5 a6 a7 a8 a9 a10 a11 a12 : Option V} (e : σ = [a0, a1, a2, a3, a4, a5, a6, a7, a8, a9, a10, a11, a12]) (h : t D [a0, a1, a2, a3, a4, a5, a6, a7, a8, a9, a10, a11, a12] H) : t D σ H := by rw [e]; exact h
theorem nrm14 {t : TS} {D : L2.Ends} {σ : L2.St} {H : Hp} {a0 a1 a2 a3 a4 a5 a6 a7 a8 a9 a10 a11 a12 a13 : Option V} (e : σ = [a0, a1, a2, a3, a4, a5, a6, a7, a8, a9, a10, a11, a12, a13]) (h : t D [a0, a1, a2, a3, a4, a5, a6, a7, a8, a9, a10, a11, a12, a13] H) : t D σ H := by rw [e]; exact h
theorem nrm15 {t : TS} {D : L2.Ends} {σ : L2.St} {H : Hp} {a0 a1 a2 a3 a4 a5 a6 a7 a8 a9 a10 a11 a12 a13 a14 : Option V} (e : σ = [a0, a1, a2, a3, a4, a5, a6, a7, a8, a9, a10, a11, a12, a13, a14]) (h : t D [a0, a1, a2, a3, a4, a5, a6, a7, a8, a9, a10, a11, a12, a13, a14] H) : t D σ H := by rw [e]; exact h
theorem nrm16 {t : TS} {D : L2.Ends} {σ : L2.St} {H : Hp} {a0 a1 a2 a3 a4 a5 a6 a7 a8 a9 a10 a11 a12 a13 a14 a15 : Option V} (e : σ = [a0, a1, a2, a3, a4, a5, a6, a7, a8, a9, a10, a11, a12, a13, a14, a15]) (h : t D [a0, a1, a2, a3, a4, a5, a6, a7, a8, a9, a10, a11, a12, a13, a14, a15] H) : t D σ H := by rw [e]; exact h
theorem nrm17 {t : TS} {D : L2.Ends} {σ : L2.St} {H : Hp} {a0 a1 a2 a3 a4 a5 a6 a7 a8 a9 a10 a11 a12 a13 a14 a15 a16 : Option V} (e : σ = [a0, a1, a2, a3, a4, a5, a6, a7, a8, a9, a10, a11, a12, a13, a14, a15, a16]) (h : t D [a0, a1, a2, a3, a4, a5, a6, a7, a8, a9, a10, a11, a12, a13, a14, a15, a16] H) : t D σ H := by rw [e]; exact h
theorem nrm18 {t : TS} {D : L2.Ends} {σ : L2.St} {H : Hp} {a0 a1 a2 a3 a4 a5 a6 a7 a8 a9 a10 a11 a12 a13 a14 a15 a16 a17 : Option V} (e : σ = [a0, a1, a2, a3, a4, a5, a6, a7, a8, a9, a10, a11, a12, a13, a14, a15, a16, a17]) (h : t D [a0, a1, a2, a3, a4, a5, a6, a7, a8, a9, a10, a11, a12, a13, a14, a15, a16, a17] H) : t D σ H := by rw [e]; exact h
theorem nrm19 {t : TS} {D : L2.Ends} {σ : L2.St} {H : Hp} {a0 a1 a2 a3 a4 a5 a6 a7 a8 a9 a10 a11 a12 a13 a14 a15 a16 a17 a18 : Option V} (e : σ = [a0, a1, a2, a3, a4, a5, a6, a7, a8, a9, a10, a11, a12, a13, a14, a15, a16, a17, a18]) (h : t D [a0, a1, a2, a3, a4, a5, a6, a7, a8, a9, a10, a11, a12, a13, a14, a15, a16, a17, a18] H) : t D σ H := by rw [e]; exact h
theorem nrm20 {t : TS} {D : L2.Ends} {σ : L2.St} {H : Hp} {a0 a1 a2 a3 a4 a5 a6 a7 a8 a9 a10 a11 a12 a13 a14 a15 a16 a17 a18 a19 : Option V} (e : σ = [a0, a1, a2, a3, a4, a5, a6, a7, a8, a9, a10, a11, a12, a13, a14, a15, a16, a17, a18, a19]) (h : t D [a0, a1, a2, a3, a4, a5, a6, a7, a8, a9, a10, a11, a12, a13, a14, a15, a16, a17, a18, a19] H) : t D σ H := by rw [e]; exact h
theorem nrm21 {t : TS} {D : L2.Ends} {σ : L2.St} {H : Hp} {a0 a1 a2 a3 a4 a5 a6 a7 a8 a9 a10 a11 a12 a13 a14 a15 a16 a17 a18 a19 a20 : Option V} (e : σ = [a0, a1, a2, a3, a4, a5, a6, a7, a8, a9, a10, a11, a12, a13, a14, a15, a16, a17, a18, a19, a20]) (h : t D [a0, a1, a2, a3, a4, a5, a6, a7, a8, a9, a10, a11, a12, a13, a14, a15, a16, a17, a18, a19, a20] H) : t D σ H := by rw [e]; exact h
theorem nrm22 {t : TS} {D : L2.Ends} {σ : L2.St} {H : Hp} {a0 a1 a2 a3 a4 a5 a6 a7 a8 a9 a10 a11 a12 a13 a14 a15 a16 a17 a18 a19 a20 a21 : Option V} (e : σ = [a0, a1, a2, a3, a4, a5, a6, a7, a8, a9, a10, a11, a12, a13, a14, a15, a16, a17, a18, a19, a20, a21]) (h : t D [a0, a1, a2, a3, a4, a5, a6, a7, a8, a9, a10, a11, a12, a13, a14, a15, a16, a17, a18, a19, a20, a21] H) : t D σ H := by rw [e]; exact h
theorem nrm23 {t : TS} {D : L2.Ends} {σ : L2.St} {H : Hp} {a0 a1 a2 a3 a4 a5 a6 a7 a8 a9 a10 a11 a12 a13 a14 a15 a16 a17 a18 a19 a20 a21 a22 : Option V} (e : σ = [a0, a1, a2, a3, a4, a5, a6, a7, a8, a9, a10, a11, a12, a13, a14, a15, a16, a17, a18, a19, a20, a21, a22]) (h : t D [a0, a1, a2, a3, a4, a5, a6, a7, a8, a9, a10, a11, a12, a13, a14, a15, a16, a17, a18, a19, a20, a21, a22] H) : t D σ H := by rw [e]; exact h
theorem nrm24 {t : TS} {D : L2.Ends} {σ : L2.St} {H : Hp} {a0 a1 a2 a3 a4 a5 a6 a7 a8 a9 a10 a11 a12 a13 a14 a15 a16 a17 a18 a19 a20 a21 a22 a23 : Option V} (e : σ = [a0, a1, a2, a3, a4, a5, a6, a7, a8, a9, a10, a11, a12, a13, a14, a15, a16, a17, a18, a19, a20, a21, a22, a23]) (h : t D [a0, a1, a2, a3, a4, a5, a6, a7, a8, a9, a10, a11, a12, a13, a14, a15, a16, a17, a18, a19, a20, a21, a22, a23] H) : t D σ H := by rw [e]; exact h
theorem nrm25 {t : TS} {D : L2.Ends} {σ : L2.St} {H : Hp} {a0 a1 a2 a3 a4 a5 a6 a7 a8 a9 a10 a11 a12 a13 a14 a15 a16 a17 a18 a19 a20 a21 a22 a23 a24 : Option V} (e : σ = [a0, a1, a2, a3, a4, a5, a6, a7, a8, a9, a10, a11, a12, a13, a14, a15, a16, a17, a18, a19, a20, a21, a22, a23, a24]) (h : t D [a0, a1, a2, a3, a4, a5, a6, a7, a8, a9, a10, a11, a12, a13, a14, a15, a16, a17, a18, a19, a20, a21, a22, a23, a24] H) : t D σ H := by rw [e]; exact h
theorem nrm26 {t : TS} {D : L2.Ends} {σ : L2.St} {H : Hp} {a0 a1 a2 a3 a4 a5 a6 a7 a8 a9 a10 a11 a12 a13 a14 a15 a16 a17 a18 a19 a20 a21 a22 a23 a24 a25 : Option V} (e : σ = [a0, a1, a2, a3, a4, a5, a6, a7, a8, a9, a10, a11, a12, a13, a14, a15, a16, a17, a18, a19, a20, a21, a22, a23, a24, a25]) (h : t D [a0, a1, a2, a3, a4, a5, a6, a7, a8, a9, a10, a11, a12, a13, a14, a15, a16, a17, a18, a19, a20, a21, a22, a23, a24, a25] H) : t D σ H := by rw [e]; exact h
/-- a name is stored, the slots written out -/
theorem gnm4 {i : Nat} {v : V} {σ : L2.St} {H : Hp} {Q : L2.St → Hp → Prop} {a0 a1 a2 a3 : Option V} (e : σ.set i (some v) = [a0, a1, a2, a3]) (h : Q [a0, a1, a2, a3] H) : gName i v σ H Q := by show Q (σ.set i (some v)) H; rw [e]; exact h
theorem gnm5 {i : Nat} {v : V} {σ : L2.St} {H : Hp} {Q : L2.St → Hp → Prop} {a0 a1 a2 a3 a4 : Option V} (e : σ.set i (some v) = [a0, a1, a2, a3, a4]) (h : Q [a0, a1, a2, a3, a4] H) : gName i v σ H Q := by show Q (σ.set i (some v)) H; rw [e]; exact h
theorem gnm6 {i : Nat} {v : V} {σ : L2.St} {H : Hp} {Q : L2.St → Hp → Prop} {a0 a1 a2 a3 a4 a5 : Option V} (e : σ.set i (some v) = [a0, a1, a2, a3, a4, a5]) (h : Q [a0, a1, a2, a3, a4, a5] H) : gName i v σ H Q := by show Q (σ.set i (some v)) H; rw [e]; exact h
theorem gnm7 {i : Nat} {v : V} {σ : L2.St} {H : Hp} {Q : L2.St → Hp → Prop} {a0 a1 a2 a3 a4 a5 a6 : Option V} (e : σ.set i (some v) = [a0, a1, a2, a3, a4, a5, a6]) (h : Q [a0, a1, a2, a3, a4, a5, a6] H) : gName i v σ H Q := by show Q (σ.set i (some v)) H; rw [e]; exact h
theorem gnm8 {i : Nat} {v : V} {σ : L2.St} {H : Hp} {Q : L2.St → Hp → Prop} {a0 a1 a2 a3 a4 a5 a6 a7 : Option V} (e : σ.set i (some v) = [a0, a1, a2, a3, a4, a5, a6, a7]) (h : Q [a0, a1, a2, a3, a4, a5, a6, a7] H) : gName i v σ H Q := by show Q (σ.set i (some v)) H; rw [e]; exact h
theorem gnm9 {i : Nat} {v : V} {σ : L2.St} {H : Hp} {Q : L2.St → Hp → Prop} {a0 a1 a2 a3 a4 a5 a6 a7 a8 : Option V} (e : σ.set i (some v) = [a0, a1, a2, a3, a4, a5, a6, a7, a8]) (h : Q [a0, a1, a2, a3, a4, a5, a6, a7, a8] H) : gName i v σ H Q := by show Q (σ.set i (some v)) H; rw [e]; exact h
theorem gnm10 {i : Nat} {v : V} {σ : L2.St} {H : Hp} {Q : L2.St → Hp → Prop} {a0 a1 a2 a3 a4 a5 a6 a7 a8 a9 : Option V} (e : σ.set i (some v) = [a0, a1, a2, a3, a4, a5, a6, a7, a8, a9]) (h : Q [a0, a1, a2, a3, a4, a5, a6, a7, a8, a9] H) : gName i v σ H Q := by show Q (σ.set i (some v)) H; rw [e]; exact h
theorem gnm11 {i : Nat} {v : V} {σ : L2.St} {H : Hp} {Q : L2.St → Hp → Prop} {a0 a1 a2 a3 a4 a5 a6 a7 a8 a9 a10 : Option V} (e : σ.set i (some v) = [a0, a1, a2, a3, a4, a5, a6, a7, a8, a9, a10]) (h : Q [a0, a1, a2, a3, a4, a5, a6, a7, a8, a9, a10] H) : gName i v σ H Q := by show Q (σ.set i (some v)) H; rw [e]; exact h
theorem gnm12 {i : Nat} {v : V} {σ : L2.St} {H : Hp} {Q : L2.St → Hp → Prop} {a0 a1 a2 a3 a4 a5 a6 a7 a8 a9 a10 a11 : Option V} (e : σ.set i (some v) = [a0, a1, a2, a3, a4, a5, a6, a7, a8, a9, a10, a11]) (h : Q [a0, a1, a2, a3, a4, a5, a6, a7, a8, a9, a10, a11] H) : gName i v σ H Q := by show Q (σ.set i (some v)) H; rw [e]; exact h
theorem gnm13 {i : Nat} {v : V} {σ : L2.St} {H : Hp} {Q : L2.St → Hp → Prop} {a0 a1 a2 a3 a4 a5 a6 a7 a8 a9 a10 a11 a12 : Option V} (e : σ.set i (some v) = [a0, a1, a2, a3, a4, a5, a6, a7, a8, a9, a10, a11, a12]) (h : Q [a0, a1, a2, a3, a4, a5, a6, a7, a8, a9, a10, a11, a12] H) : gName i v σ H Q := by show Q (σ.set i (some v)) H; rw [e]; exact h
theorem gnm14 {i : Nat} {v : V} {σ : L2.St} {H : Hp} {Q : L2.St → Hp → Prop} {a0 a1 a2 a3 a4 a5 a6 a7 a8 a9 a10 a11 a12 a13 : Option V} (e : σ.set i (some v) = [a0, a1, a2, a3, a4, a5, a6, a7, a8, a9, a10, a11, a12, a13]) (h : Q [a0, a1, a2, a3, a4, a5, a6, a7, a8, a9, a10, a11, a12, a13] H) : gName i v σ H Q := by show Q (σ.set i (some v)) H; rw [e]; exact h
theorem gnm15 {i : Nat} {v : V} {σ : L2.St} {H : Hp} {Q : L2.St → Hp → Prop} {a0 a1 a2 a3 a4 a5 a6 a7 a8 a9 a10 a11 a12 a13 a14 : Option V} (e : σ.set i (some v) = [a0, a1, a2, a3, a4, a5, a6, a7, a8, a9, a10, a11, a12, a13, a14]) (h : Q [a0, a1, a2, a3, a4, a5, a6, a7, a8, a9, a10, a11, a12, a13, a14] H) : gName i v σ H Q := by show Q (σ.set i (some v)) H; rw [e]; exact h
theorem gnm16 {i : Nat} {v : V} {σ : L2.St} {H : Hp} {Q : L2.St → Hp → Prop} {a0 a1 a2 a3 a4 a5 a6 a7 a8 a9 a10 a11 a12 a13 a14 a15 : Option V} (e : σ.set i (some v) = [a0, a1, a2, a3, a4, a5, a6, a7, a8, a9, a10, a11, a12, a13, a14, a15]) (h : Q [a0, a1, a2, a3, a4, a5, a6, a7, a8, a9, a10, a11, a12, a13, a14, a15] H) : gName i v σ H Q := by show Q (σ.set i (some v)) H; rw [e]; exact h
theorem gnm17 {i : Nat} {v : V} {σ : L2.St} {H : Hp} {Q : L2.St → Hp → Prop} {a0 a1 a2 a3 a4 a5 a6 a7 a8 a9 a10 a11 a12 a13 a14 a15 a16 : Option V} (e : σ.set i (some v) = [a0, a1, a2, a3, a4, a5, a6, a7, a8, a9, a10, a11, a12, a13, a14, a15, a16]) (h : Q [a0, a1, a2, a3, a4, a5, a6, a7, a8, a9, a10, a11, a12, a13, a14, a15, a16] H) : gName i v σ H Q := by show Q (σ.set i (some v)) H; rw [e]; exact h
theorem gnm18 {i : Nat} {v : V} {σ : L2.St} {H : Hp} {Q : L2.St → Hp → Prop} {a0 a1 a2 a3 a4 a5 a6 a7 a8 a9 a10 a11 a12 a13 a14 a15 a16 a17 : Option V} (e : σ.set i (some v) = [a0, a1, a2, a3, a4, a5, a6, a7, a8, a9, a10, a11, a12, a13, a14, a15, a16, a17]) (h : Q [a0, a1, a2, a3, a4, a5, a6, a7, a8, a9, a10, a11, a12, a13, a14, a15, a16, a17] H) : gName i v σ H Q := by show Q (σ.set i (some v)) H; rw [e]; exact h
theorem gnm19 {i : Nat} {v : V} {σ : L2.St} {H : Hp} {Q : L2.St → Hp → Prop} {a0 a1 a2 a3 a4 a5 a6 a7 a8 a9 a10 a11 a12 a13 a14 a15 a16 a17 a18 : Option V} (e : σ.set i (some v) = [a0, a1, a2, a3, a4, a5, a6, a7, a8, a9, a10, a11, a12, a13, a14, a15, a16, a17, a18]) (h : Q [a0, a1, a2, a3, a4, a5, a6, a7, a8, a9, a10, a11, a12, a13, a14, a15, a16, a17, a18] H) : gName i v σ H Q := by show Q (σ.set i (some v)) H; rw [e]; exact h
theorem gnm20 {i : Nat} {v : V} {σ : L2.St} {H : Hp} {Q : L2.St → Hp → Prop} {a0 a1 a2 a3 a4 a5 a6 a7 a8 a9 a10 a11 a12 a13 a14 a15 a16 a17 a18 a19 : Option V} (e : σ.set i (some v) = [a0, a1, a2, a3, a4, a5, a6, a7, a8, a9, a10, a11, a12, a13, a14, a15, a16, a17, a18, a19]) (h : Q [a0, a1, a2, a3, a4, a5, a6, a7, a8, a9, a10, a11, a12, a13, a14, a15, a16, a17, a18, a19] H) : gName i v σ H Q := by show Q (σ.set i (some v)) H; rw [e]; exact h
theorem gnm21 {i : Nat} {v : V} {σ : L2.St} {H : Hp} {Q : L2.St → Hp → Prop} {a0 a1 a2 a3 a4 a5 a6 a7 a8 a9 a10 a11 a12 a13 a14 a15 a16 a17 a18 a19 a20 : Option V} (e : σ.set i (some v) = [a0, a1, a2, a3, a4, a5, a6, a7, a8, a9, a10, a11, a12, a13, a14, a15, a16, a17, a18, a19, a20]) (h : Q [a0, a1, a2, a3, a4, a5, a6, a7, a8, a9, a10, a11, a12, a13, a14, a15, a16, a17, a18, a19, a20] H) : gName i v σ H Q := by show Q (σ.set i (some v)) H; rw [e]; exact h
theorem gnm22 {i : Nat} {v : V} {σ : L2.St} {H : Hp} {Q : L2.St → Hp → Prop} {a0 a1 a2 a3 a4 a5 a6 a7 a8 a9 a10 a11 a12 a13 a14 a15 a16 a17 a18 a19 a20 a21 : Option V} (e : σ.set i (some v) = [a0, a1, a2, a3, a4, a5, a6, a7, a8, a9, a10, a11, a12, a13, a14, a15, a16, a17, a18, a19, a20, a21]) (h : Q [a0, a1, a2, a3, a4, a5, a6, a7, a8, a9, a10, a11, a12, a13, a14, a15, a16, a17, a18, a19, a20, a21] H) : gName i v σ H Q := by show Q (σ.set i (some v)) H; rw [e]; exact h
theorem gnm23 {i : Nat} {v : V} {σ : L2.St} {H : Hp} {Q : L2.St → Hp → Prop} {a0 a1 a2 a3 a4 a5 a6 a7 a8 a9 a10 a11 a12 a13 a14 a15 a16 a17 a18 a19 a20 a21 a22 : Option V} (e : σ.set i (some v) = [a0, a1, a2, a3, a4, a5, a6, a7, a8, a9, a10, a11, a12, a13, a14, a15, a16, a17, a18, a19, a20, a21, a22]) (h : Q [a0, a1, a2, a3, a4, a5, a6, a7, a8, a9, a10, a11, a12, a13, a14, a15, a16, a17, a18, a19, a20, a21, a22] H) : gName i v σ H Q := by show Q (σ.set i (some v)) H; rw [e]; exact h
theorem gnm24 {i : Nat} {v : V} {σ : L2.St} {H : Hp} {Q : L2.St → Hp → Prop} {a0 a1 a2 a3 a4 a5 a6 a7 a8 a9 a10 a11 a12 a13 a14 a15 a16 a17 a18 a19 a20 a21 a22 a23 : Option V} (e : σ.set i (some v) = [a0, a1, a2, a3, a4, a5, a6, a7, a8, a9, a10, a11, a12, a13, a14, a15, a16, a17, a18, a19, a20, a21, a22, a23]) (h : Q [a0, a1, a2, a3, a4, a5, a6, a7, a8, a9, a10, a11, a12, a13, a14, a15, a16, a17, a18, a19, a20, a21, a22, a23] H) : gName i v σ H Q := by show Q (σ.set i (some v)) H; rw [e]; exact h
theorem gnm25 {i : Nat} {v : V} {σ : L2.St} {H : Hp} {Q : L2.St → Hp → Prop} {a0 a1 a2 a3 a4 a5 a6 a7 a8 a9 a10 a11 a12 a13 a14 a15 a16 a17 a18 a19 a20 a21 a22 a23 a24 : Option V} (e : σ.set i (some v) = [a0, a1, a2, a3, a4, a5, a6, a7, a8, a9, a10, a11, a12, a13, a14, a15, a16, a17, a18, a19, a20, a21, a22, a23, a24]) (h : Q [a0, a1, a2, a3, a4, a5, a6, a7, a8, a9, a10, a11, a12, a13, a14, a15, a16, a17, a18, a19, a20, a21, a22, a23, a24] H) : gName i v σ H Q := by show Q (σ.set i (some v)) H; rw [e]; exact h
theorem gnm26 {i : Nat} {v : V} {σ : L2.St} {H : Hp} {Q : L2.St → Hp → Prop} {a0 a1 a2 a3 a4 a5 a6 a7 a8 a9 a10 a11 a12 a13 a14 a15 a16 a17 a18 a19 a20 a21 a22 a23 a24 a25 : Option V} (e : σ.set i (some v) = [a0, a1, a2, a3, a4, a5, a6, a7, a8, a9, a10, a11, a12, a13, a14, a15, a16, a17, a18, a19, a20, a21, a22, a23, a24, a25]) (h : Q [a0, a1, a2, a3, a4, a5, a6, a7, a8, a9, a10, a11, a12, a13, a14, a15, a16, a17, a18, a19, a20, a21, a22, a23, a24, a25] H) : gName i v σ H Q := by show Q (σ.set i (some v)) H; rw [e]; exact h
/-! comprehensions whose elements are data -/
/-- what stood in G away from D stands in G'' -/
def Off (D : Addr) (G G'' : Hp) : Prop := ∀ b o, b ≠ D → G b = some o → G'' b = some o
theorem Off.refl (D : Addr) (G : Hp) : Off D G G := fun _ _ _ h => h
theorem Off.pre {D : Addr} {G G' G'' : Hp} (s : Same G G') (h : Off D G' G'') : Off D G G'' := fun b o n e => h b o n (s b o e)
theorem Off.put {D : Addr} {G G'' : Hp} {o : HO} (h : Off D (upd G D o) G'') : Off D G G'' := fun b u n e => h b u n (by rw [upd_ne n]; exact e)
theorem lcg {K : PySem.W.Frag} {J : It} {n : Nat} {Gd : Hp → Prop} {Y : Nat → Hp → V → Hp → Prop} (w : Walk J n Gd Y) {g : TG} {tt : TT} {te : TE} {vs : List Nat} {σ : L2.St} {H : Hp} {D : Addr} {Qd : Hp → Prop}
    (P : Nat → List PyData → Prop) (h0 : P 0 []) (hD : H D = none) (hG : ∀ G, Same H G → Gd G) (hn : n ≤ 90000)
    (hs : ∀ i x G G1 ds, i < n → Same H G → (∃ l, G D = some (.lst l)) → P i ds → Y i G x G1 → ∀ J : Option V → Hp → Prop, (∀ G', Same G G' → P (i + 1) ds → J none G') →
      (∀ y d G', Same G G' → (∀ G'', Same H G'' → Off D G' G'' → Dp K G'' y d) → P (i + 1) (ds ++ [d]) → J (some y) G') →
      g x (wipe σ vs) G1 fun σ2 H2 => wipe σ2 vs = wipe σ vs ∧ tt σ2 H2 fun b H3 => if b = true then te σ2 H3 fun y H4 => J (some y) H4 else J none H3)
    (k : ∀ H' ys ds, Same H H' → H' D = some (.lst ys) → DpAll K H' ys ds → P n ds → Qd H') :
    ∃ W : Nat → Nat → Hp → Prop, (∃ m, W 0 m (upd H D (.lst []))) ∧ ∀ i m H, W i m H →
      (J.stop i H ∧ Qd H) ∨ (J.go i H ∧ ∃ Nx : Hp → Prop, (∀ H', Nx H' → ∃ m', m' < m ∧ W (i + 1) m' H') ∧ ∀ x H', J.yld i H x H' → g x (wipe σ vs) H' fun σ2 H2 => wipe σ2 vs = wipe σ vs ∧ tt σ2 H2 fun b H3 =>
        if b = true then te σ2 H3 fun y H4 => ∃ acc, H4 D = some (.lst acc) ∧ acc.length < sizeLine ∧ Nx (upd H4 D (.lst (acc ++ [y]))) else Nx H3) := by
  refine lc_it w (fun i G => ∃ ys ds, Same H G ∧ G D = some (.lst ys) ∧ (∀ G'', Same H G'' → Off D G G'' → DpAll K G'' ys ds) ∧ P i ds ∧ ds.length ≤ i) ⟨[], [], same_upd hD, upd_same, fun _ _ _ => .nil, h0, Nat.le_refl _⟩ (fun i G _ h => hG G h.choose_spec.choose_spec.1) ?_ ?_
  · rintro i x G G1 hi ⟨ys, ds, s1, e1, h1, p1, l1⟩ hy
    have hl : ys.length = ds.length := dpa_len (h1 G s1 (Off.refl _ _))
    refine hs i x G G1 ds hi s1 ⟨ys, e1⟩ p1 hy (fun o G' => match o with
      | some y => ∃ acc, G' D = some (.lst acc) ∧ acc.length < sizeLine ∧ ∃ ys ds, Same H (upd G' D (.lst (acc ++ [y]))) ∧ (upd G' D (.lst (acc ++ [y]))) D = some (.lst ys) ∧ (∀ G'', Same H G'' → Off D (upd G' D (.lst (acc ++ [y]))) G'' → DpAll K G'' ys ds) ∧ P (i + 1) ds ∧ ds.length ≤ i + 1
      | none => ∃ ys ds, Same H G' ∧ G' D = some (.lst ys) ∧ (∀ G'', Same H G'' → Off D G' G'' → DpAll K G'' ys ds) ∧ P (i + 1) ds ∧ ds.length ≤ i + 1) ?_ ?_
    · exact fun G' s p => ⟨ys, ds, s1.trans s, s _ _ e1, fun G'' s2 o => h1 G'' s2 (Off.pre s o), p, by omega⟩
    · exact fun y d G' s hy p => ⟨ys, s _ _ e1, szl (by omega), ys ++ [y], ds ++ [d], same_put (s1.trans s) hD, upd_same, fun G'' s2 o => dpa_app (h1 G'' s2 (Off.pre s o.put)) (.cons (hy G'' s2 o.put) .nil), p, by rw [List.length_append]; simp only [List.length_cons, List.length_nil]; omega⟩
  · rintro G ⟨ys, ds, s1, e1, h1, p1, _⟩
    exact k G ys ds s1 e1 (h1 G s1 (Off.refl _ _)) p1
/-- over a list of data, each element by a function -/
theorem lcd {α : Type} {K : PySem.W.Frag} {g : TG} {tt : TT} {te : TE} {vs : List Nat} {σ : L2.St} {H : Hp} {D a : Addr} {Qd : Hp → Prop} {xs : List V} (es : List α) (pd : α → PyData) (f : α → Option PyData)
    (hD : H D = none) (hL : SqL K H a xs) (hx : DpAll K H xs (es.map pd)) (hn : es.length ≤ 90000)
    (hs : ∀ x e G, e ∈ es → Same H G → (∃ l, G D = some (.lst l)) → Dp K H x (pd e) → ∀ J : Option V → Hp → Prop, (∀ G', Same G G' → f e = none → J none G') →
      (∀ y d G', Same G G' → (∀ G'', Same H G'' → Off D G' G'' → Dp K G'' y d) → f e = some d → J (some y) G') →
      g x (wipe σ vs) G fun σ2 H2 => wipe σ2 vs = wipe σ vs ∧ tt σ2 H2 fun b H3 => if b = true then te σ2 H3 fun y H4 => J (some y) H4 else J none H3)
    (k : ∀ H' ys, Same H H' → H' D = some (.lst ys) → DpAll K H' ys (es.filterMap f) → Qd H') :
    ∃ W : Nat → Nat → Hp → Prop, (∃ m, W 0 m (upd H D (.lst []))) ∧ ∀ i m H, W i m H →
      ((Itl K a).stop i H ∧ Qd H) ∨ ((Itl K a).go i H ∧ ∃ Nx : Hp → Prop, (∀ H', Nx H' → ∃ m', m' < m ∧ W (i + 1) m' H') ∧ ∀ x H', (Itl K a).yld i H x H' → g x (wipe σ vs) H' fun σ2 H2 => wipe σ2 vs = wipe σ vs ∧ tt σ2 H2 fun b H3 =>
        if b = true then te σ2 H3 fun y H4 => ∃ acc, H4 D = some (.lst acc) ∧ acc.length < sizeLine ∧ Nx (upd H4 D (.lst (acc ++ [y]))) else Nx H3) := by
  have hl : xs.length = es.length := by have := dpa_len hx; rwa [List.length_map] at this
  refine lcg (K := K) (walk_list (K := K) (a := a) (xs := xs)) (fun i ds => ds = (es.take i).filterMap f) rfl hD (fun G s => s.seq hL) (by omega) ?_ ?_
  · rintro i x G G1 ds hi s1 hl1 rfl ⟨rfl, hxi⟩ J j1 j2
    have hi2 : i < es.length := by omega
    have he : es[i]? = some es[i] := List.getElem?_eq_getElem hi2
    obtain ⟨d, hd, hdp⟩ := dpa_at hx hxi
    rw [List.getElem?_map, he] at hd
    cases hd
    have ht : (es.take (i + 1)).filterMap f = (es.take i).filterMap f ++ (f es[i]).toList := by
      rw [take_more he, List.filterMap_append]
      cases e : f es[i] <;> simp [e]
    refine hs x es[i] G1 (List.getElem_mem hi2) s1 hl1 hdp J (fun G' s e => j1 G' s ?_) (fun y d G' s hy e => j2 y d G' s hy ?_)
    · rw [ht, e]; simp
    · rw [ht, e]; rfl
  · rintro H' ys ds s1 e1 h1 rfl
    rw [hl, List.take_length] at h1
    exact k H' ys s1 e1 h1
/-! data taken apart -/
theorem dp_tup {K : PySem.W.Frag} {H : Hp} {x : V} {ds : List PyData} (h : Dp K H x (.tuple ds)) : ∃ p vs, x = .ref p ∧ SqT K H p vs ∧ DpAll K H vs ds := by
  cases h with
  | tup h a => exact ⟨_, _, rfl, h, a⟩
theorem dp_str {K : PySem.W.Frag} {H : Hp} {x : V} {s : Str} (h : Dp K H x (.str s)) : x = .str s := by cases h; rfl
theorem dp_int {K : PySem.W.Frag} {H : Hp} {x : V} {i : Int} (h : Dp K H x (.int i)) : x = .int i := by cases h; rfl
theorem dp_bl {K : PySem.W.Frag} {H : Hp} {x : V} {i : Bool} (h : Dp K H x (.bool i)) : x = .bl i := by cases h; rfl
theorem dpa_nil {K : PySem.W.Frag} {H : Hp} {vs : List V} (h : DpAll K H vs []) : vs = [] := by cases h; rfl
theorem dpa_cons {K : PySem.W.Frag} {H : Hp} {vs : List V} {d : PyData} {ds : List PyData} (h : DpAll K H vs (d :: ds)) : ∃ v ws, vs = v :: ws ∧ Dp K H v d ∧ DpAll K H ws ds := by
  cases h with
  | cons h a => exact ⟨_, _, rfl, h, a⟩
theorem dpa_str {K : PySem.W.Frag} {H : Hp} {vs : List V} {s : Str} {ds : List PyData} (h : DpAll K H vs (.str s :: ds)) : ∃ ws, vs = .str s :: ws ∧ DpAll K H ws ds := by
  obtain ⟨v, ws, rfl, h1, h2⟩ := dpa_cons h
  exact ⟨ws, by rw [dp_str h1], h2⟩
theorem dpa_int {K : PySem.W.Frag} {H : Hp} {vs : List V} {s : Int} {ds : List PyData} (h : DpAll K H vs (.int s :: ds)) : ∃ ws, vs = .int s :: ws ∧ DpAll K H ws ds := by
  obtain ⟨v, ws, rfl, h1, h2⟩ := dpa_cons h
  exact ⟨ws, by rw [dp_int h1], h2⟩
theorem dpa_bl {K : PySem.W.Frag} {H : Hp} {vs : List V} {s : Bool} {ds : List PyData} (h : DpAll K H vs (.bool s :: ds)) : ∃ ws, vs = .bl s :: ws ∧ DpAll K H ws ds := by
  obtain ⟨v, ws, rfl, h1, h2⟩ := dpa_cons h
  exact ⟨ws, by rw [dp_bl h1], h2⟩
theorem fm_if {α β : Type} (p : α → Bool) (g : α → β) : ∀ l : List α, l.filterMap (fun e => if p e = true then some (g e) else none) = (l.filter p).map g
  | [] => rfl
  | a :: l => by
    have ih := fm_if p g l
    cases h : p a <;> simp [h, ih]
theorem dp_t1 {K : PySem.W.Frag} {H : Hp} {x : V} {d0 : PyData} (h : Dp K H x (.tuple [d0])) : ∃ p v0, x = .ref p ∧ SqT K H p [v0] ∧ Dp K H v0 d0 := by
  obtain ⟨p, vs, rfl, ht, h0⟩ := dp_tup h
  cases h0 with | cons g0 h1 =>
  cases h1
  exact ⟨p, _, rfl, ht, g0⟩
theorem dp_t2 {K : PySem.W.Frag} {H : Hp} {x : V} {d0 d1 : PyData} (h : Dp K H x (.tuple [d0, d1])) : ∃ p v0 v1, x = .ref p ∧ SqT K H p [v0, v1] ∧ Dp K H v0 d0 ∧ Dp K H v1 d1 := by
  obtain ⟨p, vs, rfl, ht, h0⟩ := dp_tup h
  cases h0 with | cons g0 h1 =>
  cases h1 with | cons g1 h2 =>
  cases h2
  exact ⟨p, _, _, rfl, ht, g0, g1⟩
theorem dp_t3 {K : PySem.W.Frag} {H : Hp} {x : V} {d0 d1 d2 : PyData} (h : Dp K H x (.tuple [d0, d1, d2])) : ∃ p v0 v1 v2, x = .ref p ∧ SqT K H p [v0, v1, v2] ∧ Dp K H v0 d0 ∧ Dp K H v1 d1 ∧ Dp K H v2 d2 := by
  obtain ⟨p, vs, rfl, ht, h0⟩ := dp_tup h
  cases h0 with | cons g0 h1 =>
  cases h1 with | cons g1 h2 =>
  cases h2 with | cons g2 h3 =>
  cases h3
  exact ⟨p, _, _, _, rfl, ht, g0, g1, g2⟩
theorem dp_t4 {K : PySem.W.Frag} {H : Hp} {x : V} {d0 d1 d2 d3 : PyData} (h : Dp K H x (.tuple [d0, d1, d2, d3])) : ∃ p v0 v1 v2 v3, x = .ref p ∧ SqT K H p [v0, v1, v2, v3] ∧ Dp K H v0 d0 ∧ Dp K H v1 d1 ∧ Dp K H v2 d2 ∧ Dp K H v3 d3 := by
  obtain ⟨p, vs, rfl, ht, h0⟩ := dp_tup h
  cases h0 with | cons g0 h1 =>
  cases h1 with | cons g1 h2 =>
  cases h2 with | cons g2 h3 =>
  cases h3 with | cons g3 h4 =>
  cases h4
  exact ⟨p, _, _, _, _, rfl, ht, g0, g1, g2, g3⟩
theorem dp_t5 {K : PySem.W.Frag} {H : Hp} {x : V} {d0 d1 d2 d3 d4 : PyData} (h : Dp K H x (.tuple [d0, d1, d2, d3, d4])) : ∃ p v0 v1 v2 v3 v4, x = .ref p ∧ SqT K H p [v0, v1, v2, v3, v4] ∧ Dp K H v0 d0 ∧ Dp K H v1 d1 ∧ Dp K H v2 d2 ∧ Dp K H v3 d3 ∧ Dp K H v4 d4 := by
  obtain ⟨p, vs, rfl, ht, h0⟩ := dp_tup h
  cases h0 with | cons g0 h1 =>
  cases h1 with | cons g1 h2 =>
  cases h2 with | cons g2 h3 =>
  cases h3 with | cons g3 h4 =>
  cases h4 with | cons g4 h5 =>
  cases h5
  exact ⟨p, _, _, _, _, _, rfl, ht, g0, g1, g2, g3, g4⟩
theorem dp_t6 {K : PySem.W.Frag} {H : Hp} {x : V} {d0 d1 d2 d3 d4 d5 : PyData} (h : Dp K H x (.tuple [d0, d1, d2, d3, d4, d5])) : ∃ p v0 v1 v2 v3 v4 v5, x = .ref p ∧ SqT K H p [v0, v1, v2, v3, v4, v5] ∧ Dp K H v0 d0 ∧ Dp K H v1 d1 ∧ Dp K H v2 d2 ∧ Dp K H v3 d3 ∧ Dp K H v4 d4 ∧ Dp K H v5 d5 := by
  obtain ⟨p, vs, rfl, ht, h0⟩ := dp_tup h
  cases h0 with | cons g0 h1 =>
  cases h1 with | cons g1 h2 =>
  cases h2 with | cons g2 h3 =>
  cases h3 with | cons g3 h4 =>
  cases h4 with | cons g4 h5 =>
  cases h5 with | cons g5 h6 =>
  cases h6
  exact ⟨p, _, _, _, _, _, _, rfl, ht, g0, g1, g2, g3, g4, g5⟩
theorem dp_t7 {K : PySem.W.Frag} {H : Hp} {x : V} {d0 d1 d2 d3 d4 d5 d6 : PyData} (h : Dp K H x (.tuple [d0, d1, d2, d3, d4, d5, d6])) : ∃ p v0 v1 v2 v3 v4 v5 v6, x = .ref p ∧ SqT K H p [v0, v1, v2, v3, v4, v5, v6] ∧ Dp K H v0 d0 ∧ Dp K H v1 d1 ∧ Dp K H v2 d2 ∧ Dp K H v3 d3 ∧ Dp K H v4 d4 ∧ Dp K H v5 d5 ∧ Dp K H v6 d6 := by
  obtain ⟨p, vs, rfl, ht, h0⟩ := dp_tup h
  cases h0 with | cons g0 h1 =>
  cases h1 with | cons g1 h2 =>
  cases h2 with | cons g2 h3 =>
  cases h3 with | cons g3 h4 =>
  cases h4 with | cons g4 h5 =>
  cases h5 with | cons g5 h6 =>
  cases h6 with | cons g6 h7 =>
  cases h7
  exact ⟨p, _, _, _, _, _, _, _, rfl, ht, g0, g1, g2, g3, g4, g5, g6⟩
theorem dp_t8 {K : PySem.W.Frag} {H : Hp} {x : V} {d0 d1 d2 d3 d4 d5 d6 d7 : PyData} (h : Dp K H x (.tuple [d0, d1, d2, d3, d4, d5, d6, d7])) : ∃ p v0 v1 v2 v3 v4 v5 v6 v7, x = .ref p ∧ SqT K H p [v0, v1, v2, v3, v4, v5, v6, v7] ∧ Dp K H v0 d0 ∧ Dp K H v1 d1 ∧ Dp K H v2 d2 ∧ Dp K H v3 d3 ∧ Dp K H v4 d4 ∧ Dp K H v5 d5 ∧ Dp K H v6 d6 ∧ Dp K H v7 d7 := by
  obtain ⟨p, vs, rfl, ht, h0⟩ := dp_tup h
  cases h0 with | cons g0 h1 =>
  cases h1 with | cons g1 h2 =>
  cases h2 with | cons g2 h3 =>
  cases h3 with | cons g3 h4 =>
  cases h4 with | cons g4 h5 =>
  cases h5 with | cons g5 h6 =>
  cases h6 with | cons g6 h7 =>
  cases h7 with | cons g7 h8 =>
  cases h8
  exact ⟨p, _, _, _, _, _, _, _, _, rfl, ht, g0, g1, g2, g3, g4, g5, g6, g7⟩
theorem dp_t9 {K : PySem.W.Frag} {H : Hp} {x : V} {d0 d1 d2 d3 d4 d5 d6 d7 d8 : PyData} (h : Dp K H x (.tuple [d0, d1, d2, d3, d4, d5, d6, d7, d8])) : ∃ p v0 v1 v2 v3 v4 v5 v6 v7 v8, x = .ref p ∧ SqT K H p [v0, v1, v2, v3, v4, v5, v6, v7, v8] ∧ Dp K H v0 d0 ∧ Dp K H v1 d1 ∧ Dp K H v2 d2 ∧ Dp K H v3 d3 ∧ Dp K H v4 d4 ∧ Dp K H v5 d5 ∧ Dp K H v6 d6 ∧ Dp K H v7 d7 ∧ Dp K H v8 d8 := by
  obtain ⟨p, vs, rfl, ht, h0⟩ := dp_tup h
  cases h0 with | cons g0 h1 =>
  cases h1 with | cons g1 h2 =>
  cases h2 with | cons g2 h3 =>
  cases h3 with | cons g3 h4 =>
  cases h4 with | cons g4 h5 =>
  cases h5 with | cons g5 h6 =>
  cases h6 with | cons g6 h7 =>
  cases h7 with | cons g7 h8 =>
  cases h8 with | cons g8 h9 =>
  cases h9
  exact ⟨p, _, _, _, _, _, _, _, _, _, rfl, ht, g0, g1, g2, g3, g4, g5, g6, g7, g8⟩
theorem tf_no {α : Type} {l : List α} {i : Nat} {x : α} {f : α → Bool} (h : l[i]? = some x) (hf : f x = false) : (l.take (i + 1)).filter f = (l.take i).filter f := by
  rw [take_filter f h, hf]
  simp
theorem tf_yes {α : Type} {l : List α} {i : Nat} {x : α} {f : α → Bool} (h : l[i]? = some x) (hf : f x = true) : ((l.take (i + 1)).filter f).length = ((l.take i).filter f).length + 1 := by
  rw [take_filter f h, hf]
  simp
theorem oneS {α β : Type} (f : α → Str) (g : α → β) : ∀ {l : List α} {r : α}, (l.map f).Nodup → r ∈ l → l.filterMap (fun e => if decide (V.str (f e) = V.str (f r)) = true then some (g e) else none) = [g r]
  | [], _, _, h => by cases h
  | x :: l, r, nd, h => by
    rw [List.map_cons] at nd
    obtain ⟨n1, n2⟩ := List.nodup_cons.mp nd
    rcases List.mem_cons.mp h with e | h
    · subst e
      have hn : l.filterMap (fun e => if decide (V.str (f e) = V.str (f r)) = true then some (g e) else none) = [] := by
        rw [List.filterMap_eq_nil_iff]
        intro a ha
        refine if_neg fun z => n1 ?_
        rw [decide_eq_true_iff] at z
        rw [← V.str.inj z]
        exact List.mem_map_of_mem ha
      rw [List.filterMap_cons, if_pos (decide_eq_true rfl), hn]
    · have hx : (if decide (V.str (f x) = V.str (f r)) = true then some (g x) else none) = none := by
        refine if_neg fun z => n1 ?_
        rw [decide_eq_true_iff] at z
        rw [V.str.inj z]
        exact List.mem_map_of_mem h
      rw [List.filterMap_cons, hx]
      exact oneS f g n2 h
theorem fm_some {α β : Type} (f : α → β) (l : List α) : l.filterMap (fun e => some (f e)) = l.map f := by rw [← List.filterMap_eq_map]; rfl
/-! the digits of a script's cell -/
def Digs : List Int → List Int → Prop
  | [], [] => True
  | d :: ds, z :: zs => (0 ≤ d ∧ d < z) ∧ Digs ds zs
  | _, _ => False
theorem digs_snoc : ∀ {ds zs : List Int} {d z : Int}, Digs ds zs → 0 ≤ d → d < z → Digs (ds ++ [d]) (zs ++ [z])
  | [], [], _, _, _, h0, h1 => ⟨⟨h0, h1⟩, trivial⟩
  | _ :: _, _ :: _, _, _, h, h0, h1 => ⟨h.1, digs_snoc h.2 h0 h1⟩
theorem digs_len : ∀ {ds zs : List Int}, Digs ds zs → ds.length = zs.length
  | [], [], _ => rfl
  | _ :: ds, _ :: zs, h => by rw [List.length_cons, List.length_cons, digs_len h.2]
theorem digs1 {ds : List Int} {z : Int} (h : Digs ds [z]) : ∃ d, ds = [d] ∧ 0 ≤ d ∧ d < z := by
  match ds, h with
  | [d], h => exact ⟨d, rfl, h.1.1, h.1.2⟩
  | _ :: _ :: _, h => exact h.2.elim
theorem digs2 {ds : List Int} {z y : Int} (h : Digs ds [z, y]) : ∃ d e, ds = [d, e] ∧ (0 ≤ d ∧ d < z) ∧ (0 ≤ e ∧ e < y) := by
  match ds, h with
  | d :: es, h => obtain ⟨e, rfl, h1⟩ := digs1 h.2; exact ⟨d, e, rfl, h.1, h1⟩
theorem digs3 {ds : List Int} {z y x : Int} (h : Digs ds [z, y, x]) : ∃ d e f, ds = [d, e, f] ∧ (0 ≤ d ∧ d < z) ∧ (0 ≤ e ∧ e < y) ∧ (0 ≤ f ∧ f < x) := by
  match ds, h with
  | d :: es, h => obtain ⟨e, f, rfl, h1⟩ := digs2 h.2; exact ⟨d, e, f, rfl, h.1, h1⟩
theorem digs4 {ds : List Int} {z y x w : Int} (h : Digs ds [z, y, x, w]) : ∃ d e f g, ds = [d, e, f, g] ∧ (0 ≤ d ∧ d < z) ∧ (0 ≤ e ∧ e < y) ∧ (0 ≤ f ∧ f < x) ∧ (0 ≤ g ∧ g < w) := by
  match ds, h with
  | d :: es, h => obtain ⟨e, f, g, rfl, h1⟩ := digs3 h.2; exact ⟨d, e, f, g, rfl, h.1, h1⟩
theorem digs5 {ds : List Int} {z y x w v : Int} (h : Digs ds [z, y, x, w, v]) : ∃ d e f g k, ds = [d, e, f, g, k] ∧ (0 ≤ d ∧ d < z) ∧ (0 ≤ e ∧ e < y) ∧ (0 ≤ f ∧ f < x) ∧ (0 ≤ g ∧ g < w) ∧ (0 ≤ k ∧ k < v) := by
  match ds, h with
  | d :: es, h => obtain ⟨e, f, g, k, rfl, h1⟩ := digs4 h.2; exact ⟨d, e, f, g, k, rfl, h.1, h1⟩
theorem digs6 {ds : List Int} {z y x w v u : Int} (h : Digs ds [z, y, x, w, v, u]) : ∃ d e f g k l, ds = [d, e, f, g, k, l] ∧ (0 ≤ d ∧ d < z) ∧ (0 ≤ e ∧ e < y) ∧ (0 ≤ f ∧ f < x) ∧ (0 ≤ g ∧ g < w) ∧ (0 ≤ k ∧ k < v) ∧ (0 ≤ l ∧ l < u) := by
  match ds, h with
  | d :: es, h => obtain ⟨e, f, g, k, l, rfl, h1⟩ := digs5 h.2; exact ⟨d, e, f, g, k, l, rfl, h.1, h1⟩
theorem digs8 {ds : List Int} {z y x w v u t s : Int} (h : Digs ds [z, y, x, w, v, u, t, s]) : ∃ d e f g k l m n, ds = [d, e, f, g, k, l, m, n] ∧ (0 ≤ d ∧ d < z) ∧ (0 ≤ e ∧ e < y) ∧ (0 ≤ f ∧ f < x) ∧ (0 ≤ g ∧ g < w) ∧ (0 ≤ k ∧ k < v) ∧ (0 ≤ l ∧ l < u) ∧ (0 ≤ m ∧ m < t) ∧ (0 ≤ n ∧ n < s) := by
  match ds, h with
  | d :: e :: es, h => obtain ⟨f, g, k, l, m, n, rfl, h1⟩ := digs6 h.2.2; exact ⟨d, e, f, g, k, l, m, n, rfl, h.1, h.2.1, h1⟩
def sp_num (K : PySem.W.Frag) : Sp := fun vs H Q _ => ∃ (a : Addr) (ns : List Int) (k : Int), vs = [.ref a, .int k] ∧ SqL K H a (ns.map V.int) ∧ (0 ≤ k ∧ k ≤ 10000) ∧ ∀ n : Int, 0 ≤ n → Q (.int n) H
def sp_digits (K : PySem.W.Frag) : Sp := fun vs H Q _ => ∃ (a b : Addr) (ns zs : List Int) (k : Int), vs = [.ref a, .int k, .ref b] ∧ SqL K H a (ns.map V.int) ∧ (0 ≤ k ∧ k ≤ 10000) ∧ SqL K H b (zs.map V.int) ∧ zs.length ≤ 1000 ∧ (∀ z ∈ zs, 0 < z ∧ z < 1073741824) ∧
  ∀ (p : Addr) (H' : Hp) (ds : List Int), H p = none → Same H H' → H' p = some (.lst (ds.map V.int)) → Digs ds zs → Q (.ref p) H'
section
variable {P : Program} {w : World} {K : PySem.W.Frag} {mg : Str → Option Value} {base : Heap}
theorem ok__law_number (T : TX K mg) : FnOk P w K mg base CX0 1 T.a__law_number T.d__law_number ["script", "k"] (sp_num K) := by
  refine T.F__law_number.ok sc__law_number (fun vs H Q E h => ?_) (fun cdv A outer s H vs Q E hr h => ?_)
  · obtain ⟨a, ns, k, rfl, _⟩ := h
    rfl
  · obtain ⟨a, ns, k, rfl, hS, hk, q⟩ := h
    refine ⟨_, (pss_cons (ps_set (i := 2) sc__law_number.nd rfl (Or.inl rfl) (pv 1))
      (C8.pss_cut (ps_if (pt_cmpR op_lt (pv 1) (pe_callB call_len_seq (by rfl) T.n_len PySem.boot_len (pa_cons (pv 0) pa_nil)) (nomark _)) (pss_one (ps_set (i := 2) sc__law_number.nd rfl (Or.inl rfl) (pe_ix ix_list (pv 0) (pv 1) (fun _ _ => rfl)))) pss_nil)
      (pss_cons (ps_if (PW.pt (pw_or (pt_cmpR op_ge (pv 2) (pe_op op_pow pe_int pe_int) (nomark _)) (pw_or1 (pt_cmpR op_lt (pv 2) pe_int (nomark _))))) (pss_one (ps_ret (pe_callB call_abs (by rfl) T.n_abs (by decide +kernel) (pa_cons (pv 2) pa_nil)))) pss_nil)
      (pss_one (ps_ret (pe_op op_mod (pe_callTy call_int1 (by rfl) T.n_int (by decide +kernel) (pa_cons (pe_op op_mul (pe_op op_mod (pe_callTy call_int1 (by rfl) T.n_int (by decide +kernel) (pa_cons (pe_op op_mul (pe_op op_add (pe_op op_add (pv 2) (pe_op op_mul pe_int (pv 1))) pe_int) pe_int) pa_nil)) pe_int) pe_int) pa_nil)) pe_int)))))), ?_⟩
    refine ⟨_, rfl, fun σ' G => H = G ∧ ∃ c : Int, σ' = [some (.ref a), some (.int k), some (.int c)], ?_, ?_⟩
    · refine ⟨.int k, rfl, .ref a, rfl, a, _, rfl, .inl hS, _, _, rfl, rfl, _, rfl, ifd (fun hc => ?_) (fun hc => ?_)⟩
      · rw [List.length_map] at hc
        obtain ⟨m, rfl⟩ := Int.eq_ofNat_of_zero_le hk.1
        have hg : ns[m]? = some ns[m] := List.getElem?_eq_getElem (by omega)
        exact ⟨_, rfl, _, rfl, a, _, _, _, rfl, rfl, hS, at_map hg, rfl, _, rfl⟩
      · exact ⟨rfl, _, rfl⟩
    rintro σ' _ ⟨rfl, c, rfl⟩
    refine ⟨_, rfl, _, _, rfl, rfl, ⟨by decide, by decide, by decide⟩, _, _, rfl, rfl, _, rfl, ifd (fun hb => ?_) (fun hb => ?_)⟩
    · refine ⟨_, rfl, _, rfl, q _ ?_⟩
      split <;> omega
    · refine ⟨_, rfl, _, _, rfl, rfl, _, rfl, ifd (fun hb2 => ?_) (fun hb2 => ?_)⟩
      · refine ⟨_, rfl, _, rfl, q _ ?_⟩
        split <;> omega
      · refine ⟨_, rfl, _, rfl, _, _, rfl, rfl, .inl ⟨by decide, by decide⟩, _, _, rfl, rfl, _, _, rfl, rfl, _, _, rfl, rfl, .inr ⟨by decide, by decide⟩, .inl ⟨_, rfl, _, _, rfl, rfl, (by show (0 : Int) < _; decide), _, _, rfl, rfl, .inr ⟨by decide, by decide⟩, .inl ⟨_, rfl, _, _, rfl, rfl, (by show (0 : Int) < _; decide), q _ (Int.emod_nonneg _ (by decide))⟩⟩⟩
theorem ok__law_digits (T : TX K mg) : FnOk P w K mg base CX0 2 T.a__law_digits T.d__law_digits ["script", "k", "sizes"] (sp_digits K) := by
  refine T.F__law_digits.ok sc__law_digits (fun vs H Q E h => ?_) (fun cdv A outer s H vs Q E hr h => ?_)
  · obtain ⟨a, b, ns, zs, k, rfl, _⟩ := h
    rfl
  · obtain ⟨a, b, ns, zs, k, rfl, hS, hk, hB, hzl, hz, q⟩ := h
    refine ⟨_, (pss_cons (ps_set (i := 3) sc__law_digits.nd rfl (Or.inl rfl) (pe_call (ok__law_number T) (hr.mono (by decide)) (by rfl) T.g__law_number T.F__law_number.kp T.b__law_number .nil pass0 (pa_cons (pv 0) (pa_cons (pv 1) pa_nil))))
      (pss_cons (ps_set (i := 4) sc__law_digits.nd rfl (Or.inl rfl) (pe_lst pa_nil))
      (pss_cons (ps_for PassesOwn.never rfl (pi_list (pv 2)) (pg_name (i := 5) sc__law_digits.nd rfl (Or.inl rfl))
        (pss_cons (ps_expr (pe_bm PySem.F.plainAttrs_list PySem.F.slot_list_append PySem.F.type_list_append mt_append (pv 4) (pa_cons (pe_op op_mod (pe_callTy call_int1 (by rfl) T.n_int (by decide +kernel) (pa_cons (pv 3) pa_nil)) (pv 5)) pa_nil)))
        (pss_one (ps_set (i := 3) sc__law_digits.nd rfl (Or.inl rfl) (pe_op op_fdiv (pe_callTy call_int1 (by rfl) T.n_int (by decide +kernel) (pa_cons (pv 3) pa_nil)) (pv 5))))))
      (pss_one (ps_ret (pv 4)))))), ?_⟩
    refine ⟨_, rfl, _, rfl, a, ns, k, rfl, hS, hk, fun n hn => ?_⟩
    refine ⟨Nat.zero_le _, fun o ho => ?_⟩
    have s1 := same_upd (o := .lst []) ho
    refine ⟨_, rfl, b, rfl, ⟨_, s1.seq hB⟩, for_list (K := K) (a := b) (xs := zs.map V.int) (fun i σ H2 => ∃ (n : Int) (ds : List Int) (x5 : Option V), 0 ≤ n ∧ σ = [some (.ref a), some (.int k), some (.ref b), some (.int n), some (.ref o), x5] ∧ Same H H2 ∧ H2 o = some (.lst (ds.map V.int)) ∧ Digs ds (zs.take i))
      ⟨n, [], none, hn, rfl, s1, upd_same, trivial⟩ (fun i σ H2 _ ⟨_, _, _, _, _, h, _⟩ => h.seq hB) ?_ ?_⟩
    · rintro i x σ H2 hx ⟨n, ds, x5, hn, rfl, g1, g2, g3⟩
      obtain ⟨z, hzi, rfl⟩ := map_at hx
      have z0 := hz z (List.mem_of_getElem? hzi)
      have hl := digs_len g3
      rw [List.length_take] at hl
      refine ⟨_, rfl, .inl ⟨rfl, _, sql g2⟩, _, rfl, .inl ⟨_, rfl, _, rfl, _, _, rfl, rfl, z0.1, o, _, _, rfl, rfl, g2, szl (by rw [List.length_map]; omega), ?_⟩⟩
      refine ⟨_, rfl, .inl ⟨_, rfl, _, rfl, _, _, rfl, rfl, z0, ?_⟩⟩
      refine ⟨n / z, ds ++ [n % z], _, Int.ediv_nonneg hn (by omega), rfl, same_put g1 ho, ?_, ?_⟩
      · rw [upd_same, List.map_append]
        rfl
      · rw [take_more hzi]
        exact digs_snoc g3 (Int.emod_nonneg _ (by omega)) (Int.emod_lt_of_pos _ z0.1)
    · rintro σ H2 ⟨n, ds, x5, hn, rfl, g1, g2, g3⟩
      rw [List.length_map, List.take_length] at g3
      exact ⟨_, rfl, q o _ ds ho g1 g2 g3⟩
end
/-! texts of numbers, items of written lists -/
theorem slen_app (a b : Str) : (a ++ b).length = a.length + b.length := by
  show (a.cps ++ b.cps).size = a.cps.size + b.cps.size
  rw [Array.size_append]
theorem strN_len : ∀ n : Nat, n < 1101 → (Str.ofString (toString (n : Int))).length ≤ 8 := by decide +kernel
theorem strN_log : ∀ n : Nat, n < 1101 → ((n : Int).natAbs).log2 < 1920 := by decide +kernel
theorem strI {i : Int} (h : 0 ≤ i ∧ i ≤ 1100) : i.natAbs.log2 < 1920 ∧ (Str.ofString (toString i)).length ≤ 8 := by
  obtain ⟨n, rfl⟩ := Int.eq_ofNat_of_zero_le h.1
  exact ⟨strN_log n (by omega), strN_len n (by omega)⟩
theorem at_strs {zs : List Str} {i : Int} (h0 : 0 ≤ i) (h1 : i < zs.length) : ∃ z, z ∈ zs ∧ atI (zs.map V.str) i = some (.str z) := by
  obtain ⟨n, rfl⟩ := Int.eq_ofNat_of_zero_le h0
  have hn : n < zs.length := by omega
  exact ⟨zs[n], List.getElem_mem hn, at_map (List.getElem?_eq_getElem hn)⟩
theorem strX {a b : Str} (h : a.cps.toList = b.cps.toList) : a = b := by
  cases a; cases b
  simp only [Str.mk.injEq]
  exact Array.toList_inj.mp h
theorem ok_app (a b : Str) : PyData.strOk (a ++ b) = (PyData.strOk a && PyData.strOk b) := by
  show (a.cps ++ b.cps).all _ = _
  rw [Array.all_append]
  rfl
theorem ok_num : ∀ n : Nat, n < 111 → PyData.strOk (Str.ofString (toString (n : Int))) = true := by decide +kernel
theorem ok_numI {i : Int} (h : 0 ≤ i ∧ i ≤ 110) : PyData.strOk (Str.ofString (toString i)) = true := by
  obtain ⟨n, rfl⟩ := Int.eq_ofNat_of_zero_le h.1
  exact ok_num n (by omega)
theorem app_list (a b : Str) : (a ++ b).cps.toList = a.cps.toList ++ b.cps.toList := by
  show (a.cps ++ b.cps).toList = _
  rw [Array.toList_append]
/-! dicts whose keys are texts: what they hold, as a function -/
def isTxt (z : Str) : Value → Bool
  | .str y _ => y == z
  | _ => false
theorem vals_get : ∀ {xs : List V} {us : List Value} {i : Nat} {x : V}, Vals xs us → xs[i]? = some x → ∃ u, us[i]? = some u ∧ RelV x u
  | _, _, _, _, .nil, h => by simp at h
  | _, _, 0, _, .cons r _, h => ⟨_, rfl, by cases h; exact r⟩
  | _, _, i + 1, _, .cons _ t, h => by
    obtain ⟨u, e, r⟩ := vals_get (i := i) t (by simpa using h)
    exact ⟨u, by simpa using e, r⟩
theorem vals_drop : ∀ {xs : List V} {us : List Value} (i : Nat), Vals xs us → Vals (xs.eraseIdx i) (us.eraseIdx i)
  | _, _, _, .nil => .nil
  | _, _, 0, .cons _ t => t
  | _, _, i + 1, .cons r t => .cons r (vals_drop i t)
theorem txt_gives {z : Str} {t : Tok} : ∀ {zs : List Str} {us : List Value}, Vals (zs.map V.str) us → ∀ u ∈ us, MeetsSeq.EqGives u (.str z t) (isTxt z u)
  | [], _, .nil, _, h => by cases h
  | y :: zs, _, .cons r tl, u, h => by
    rcases List.mem_cons.mp h with e | e
    · obtain ⟨k, rfl⟩ := r
      subst e
      exact eqGives_str y z k t
    · exact txt_gives tl u e
theorem erase_str : ∀ (l : List Str) (j : Nat), (l.map V.str).eraseIdx j = (l.eraseIdx j).map V.str
  | [], _ => rfl
  | _ :: _, 0 => rfl
  | y :: l, j + 1 => congrArg (V.str y :: ·) (erase_str l j)
def rRemS : V → List V → Hp → VK → Prop := fun x as H Q => ∃ (l : Addr) (zs : List Str) (z : Str), x = .ref l ∧ as = [.str z] ∧ H l = some (.lst (zs.map V.str)) ∧ z ∈ zs ∧ Q .non (upd H l (.lst ((zs.erase z).map V.str)))
theorem mt_removeS {X : Cx} : MtR X "list.remove" rRemS := by
  intro pins s σ H x as v us Q I rx ra ⟨l, zs, z, e1, e2, hH, hz, q⟩
  subst e1; subst e2
  cases rx
  obtain ⟨u, rfl, t, rfl⟩ := ra.one
  obtain ⟨hn, its, n, r, hl, e⟩ := I.lstM hH
  rw [List.length_map] at hl hn
  have hj : zs.idxOf z < zs.length := List.idxOf_lt_length_iff.mpr hz
  have hg : zs[zs.idxOf z]? = some z := by rw [List.getElem?_eq_getElem hj, List.getElem_idxOf]
  have at_ : ∀ (m : Nat) (y : Str) (hm : m < its.toArray.size), zs[m]? = some y → isTxt z its.toArray[m] = (y == z) := fun m y hm hy => by
    obtain ⟨u, hu, k, rfl⟩ := vals_get r (show (zs.map V.str)[m]? = some (.str y) by rw [List.getElem?_map, hy]; rfl)
    obtain ⟨h1, h2⟩ := List.getElem?_eq_some_iff.mp hu
    have h3 : its.toArray[m] = .str y k := by simpa using h2
    rw [h3]
    rfl
  have hjl : zs.idxOf z < its.toArray.size := by rw [List.size_toArray]; omega
  have run := MeetsSeq.list_remove l its.toArray n (.str z t) (isTxt z) (fun y hy => txt_gives r y (by simpa using hy)) (zs.idxOf z) hjl (by rw [at_ _ _ hjl hg]; exact beq_self_eq_true z) (fun m hm hmj => by
    have hmz : m < zs.length := by omega
    rw [at_ m _ hm (List.getElem?_eq_getElem hmz)]
    exact beq_eq_false_iff_ne.mpr fun h2 => by
      have h3 := List.not_of_lt_findIdx (xs := zs) (p := fun y => y == z) (i := m) hmj
      simp [h2] at h3) (by rw [List.size_toArray]; omega)
  refine call_meets PySem.F.slot_list_remove ⟨_, e, rfl⟩ PySem.F.entry_list_remove (PySem.F.args_list_remove_2 _ _) run ⟨e, ?_⟩
  have hE : (zs.map V.str).eraseIdx (zs.idxOf z) = (zs.erase z).map V.str := by
    rw [List.erase_eq_eraseIdx_of_idxOf (i := zs.idxOf z) rfl]
    exact erase_str zs _
  have rr := vals_drop (zs.idxOf z) r
  rw [hE] at rr
  refine ⟨.non, _, I.lset (its' := its.eraseIdx (zs.idxOf z)) (t' := s.toks) hH e ?_ rr ?_, rfl, q⟩
  · exact (List.eraseIdxIfInBounds_toArray ..).trans rfl
  · rw [List.length_map]
    exact Nat.le_trans (List.length_erase_le ..) hn
/-- x *= y, x from -2^64 to 2^64 -/
theorem ip_mul {X : Cx} : PIp X .Mult (fun x y H Q => ∃ i j : Int, x = .int i ∧ y = .int j ∧ (-(2 ^ 64) < i ∧ i < 2 ^ 64) ∧ Q (.int (i * j)) H) := by
  intro pins s σ H x y v u Q I r1 r2 ⟨i, j, e1, e2, ⟨h1, h2⟩, q⟩
  subst e1; subst e2
  obtain ⟨t, rfl⟩ := r1
  obtain ⟨t', rfl⟩ := r2
  exact imul_int ⟨.int _, H, I.tok _, ⟨_, rfl⟩, q⟩ (.of_left (intBits_le_64 h1 h2))
theorem nd_len {α : Type} [DecidableEq α] : ∀ {l U : List α}, l.Nodup → (∀ x ∈ l, x ∈ U) → l.length ≤ U.length
  | [], _, _, _ => Nat.zero_le _
  | a :: l, U, nd, h => by
    have ha := h a List.mem_cons_self
    have n2 := List.nodup_cons.mp nd
    have := nd_len (l := l) (U := U.erase a) n2.2 fun x hx => (List.mem_erase_of_ne (fun z => n2.1 (by rw [← z]; exact hx))).mpr (h x (List.mem_cons_of_mem _ hx))
    rw [List.length_erase_of_mem ha] at this
    have h0 : 0 < U.length := List.length_pos_of_mem ha
    simp only [List.length_cons]
    omega
structure DS {α : Type} (U : List Str) (g : α → V) (kvs : List (Key × V)) (f : Str → Option α) : Prop where
  nd : (kvs.map (·.1)).Nodup
  ks : ∀ kv ∈ kvs, ∃ s ∈ U, kv.1 = Sum.inr s
  vl : ∀ s, valV kvs (Sum.inr s) = (f s).map g
def keyS : Key → Str
  | .inr s => s
  | _ => ""
section
variable {α : Type} {U : List Str} {g : α → V} {kvs : List (Key × V)} {f : Str → Option α}
def setF (f : Str → Option α) (k : Str) (v : α) : Str → Option α := fun s => if s = k then some v else f s
def unsF (f : Str → Option α) (k : Str) : Str → Option α := fun s => if s = k then none else f s
theorem ds_nil : DS U g [] fun _ => none := ⟨List.nodup_nil, (fun _ h => by cases h), fun _ => rfl⟩
theorem keys_map (h : DS U g kvs f) : kvs.map (·.1) = (kvs.map fun kv => keyS kv.1).map Sum.inr := by
  rw [List.map_map]
  apply List.map_congr_left
  intro kv hm
  obtain ⟨s, _, e⟩ := h.ks kv hm
  show kv.1 = Sum.inr (keyS kv.1)
  rw [e]
  rfl
theorem keys_nd (h : DS U g kvs f) : (kvs.map fun kv => keyS kv.1).Nodup := by
  have := h.nd
  rw [keys_map h] at this
  exact List.Pairwise.of_map Sum.inr (fun a b hab z => hab (by rw [z])) this
theorem keys_in (h : DS U g kvs f) : ∀ s ∈ (kvs.map fun kv => keyS kv.1), s ∈ U := fun s hs => by
  obtain ⟨kv, hm, rfl⟩ := List.mem_map.mp hs
  obtain ⟨s, hu, e⟩ := h.ks kv hm
  rw [e]
  exact hu
theorem ds_len (h : DS U g kvs f) : kvs.length ≤ U.length := by
  have := nd_len (keys_nd h) (keys_in h)
  rwa [List.length_map] at this
theorem key_iff (h : DS U g kvs f) (s : Str) : s ∈ (kvs.map fun kv => keyS kv.1) ↔ (f s).isSome = true := by
  have e : (valV kvs (Sum.inr s)).isSome = (f s).isSome := by rw [h.vl]; cases f s <;> rfl
  rw [← e, ← valV_any]
  constructor
  · intro hs
    obtain ⟨kv, hm, rfl⟩ := List.mem_map.mp hs
    obtain ⟨s, _, e⟩ := h.ks kv hm
    exact List.any_eq_true.mpr ⟨kv, hm, by rw [e]; simp [keyS]⟩
  · intro hs
    obtain ⟨kv, hm, e⟩ := List.any_eq_true.mp hs
    exact List.mem_map.mpr ⟨kv, hm, by rw [of_decide_eq_true e]; rfl⟩
theorem ds_put (h : DS U g kvs f) {k : Str} (hk : k ∈ U) (v : α) : DS U g (putK kvs (Sum.inr k) (g v)) (setF f k v) := by
  refine ⟨?_, ?_, fun s => ?_⟩
  · unfold putK
    split
    · rw [List.map_map]
      have : ((fun x => x.1) ∘ fun kv : Key × V => if kv.1 = Sum.inr k then (kv.1, g v) else kv) = fun x => x.1 := by
        funext kv
        simp only [Function.comp]
        split <;> rfl
      rw [this]
      exact h.nd
    · next hn =>
      rw [List.map_append]
      refine List.nodup_append.mpr ⟨h.nd, by simp, fun x hx y hy z => hn ?_⟩
      simp only [List.map_cons, List.map_nil, List.mem_cons, List.not_mem_nil, or_false] at hy
      obtain ⟨kv, hm, e⟩ := List.mem_map.mp hx
      exact List.any_eq_true.mpr ⟨kv, hm, decide_eq_true (by rw [e, z, hy])⟩
  · intro kv hm
    unfold putK at hm
    split at hm
    · obtain ⟨kv', hm', e⟩ := List.mem_map.mp hm
      obtain ⟨s, hu, e'⟩ := h.ks kv' hm'
      refine ⟨s, hu, ?_⟩
      rw [← e]
      split <;> exact e'
    · rcases List.mem_append.mp hm with hm | hm
      · exact h.ks kv hm
      · rw [List.mem_singleton] at hm
        exact ⟨k, hk, by rw [hm]⟩
  · rw [valV_put]
    unfold setF
    by_cases e : s = k
    · rw [e, if_pos rfl, if_pos rfl]
      rfl
    · rw [if_neg (fun z => e (Sum.inr.inj z)), if_neg e]
      exact h.vl s
theorem val_drop (k j : Key) : ∀ kvs : List (Key × V), valV (dropK kvs k) j = if j = k then none else valV kvs j
  | [] => by simp [dropK, valV_nil]
  | p :: r => by
    have ih := val_drop k j r
    unfold dropK at ih ⊢
    rw [List.filter_cons]
    by_cases hp : p.1 = k
    · rw [if_neg (by simp [hp]), ih]
      split
      · rfl
      · next hj => rw [valV_neg (fun z => hj (by rw [← z, hp]))]
    · rw [if_pos (by simp [hp])]
      by_cases hj : p.1 = j
      · rw [valV_pos hj, valV_pos hj, if_neg (fun z => hp (by rw [hj, z]))]
      · rw [valV_neg hj, valV_neg hj, ih]
theorem ds_drop (h : DS U g kvs f) (k : Str) : DS U g (dropK kvs (Sum.inr k)) (unsF f k) := by
  refine ⟨(List.filter_sublist.map _).nodup h.nd, fun kv hm => h.ks kv (List.mem_filter.mp hm).1, fun s => ?_⟩
  rw [val_drop]
  unfold unsF
  by_cases e : s = k
  · rw [e, if_pos rfl, if_pos rfl]
    rfl
  · rw [if_neg (fun z => e (Sum.inr.inj z)), if_neg e]
    exact h.vl s
end
theorem inV_str (k : Str) : ∀ zs : List Str, inV (.str k) (zs.map V.str) = decide (k ∈ zs)
  | [] => rfl
  | z :: zs => by
    have ih := inV_str k zs
    unfold inV at ih ⊢
    rw [List.map_cons, List.any_cons, ih]
    show ((z == k) || decide (k ∈ zs)) = decide (k ∈ z :: zs)
    by_cases e : k = z
    · subst e
      rw [beq_self_eq_true, Bool.true_or, decide_eq_true List.mem_cons_self]
    · rw [beq_eq_false_iff_ne.mpr (Ne.symm e), Bool.false_or, Bool.eq_iff_iff, decide_eq_true_iff, decide_eq_true_iff, List.mem_cons]
      exact ⟨.inr, fun h => h.resolve_left e⟩
theorem flat_strs : ∀ zs : List Str, (zs.map V.str).all flatV = true
  | [] => rfl
  | _ :: zs => flat_strs zs
def DAt {α : Type} (U : List Str) (g : α → V) (H : Hp) (d : Addr) (f : Str → Option α) : Prop := ∃ kvs, H d = some (.dK kvs) ∧ DS U g kvs f
/-- all but these stand as they stood -/
def Fr (L : List Addr) (H H' : Hp) : Prop := ∀ x o, H x = some o → x ∉ L → H' x = some o
theorem Fr.refl (L : List Addr) (H : Hp) : Fr L H H := fun _ _ h _ => h
theorem Fr.trans {L : List Addr} {H H' H2 : Hp} (h : Fr L H H') (g : Fr L H' H2) : Fr L H H2 := fun x o e n => g x o (h x o e n) n
theorem Fr.of_same {L : List Addr} {H H' : Hp} (h : Same H H') : Fr L H H' := fun x o e _ => h x o e
theorem Fr.up {L : List Addr} {H H' : Hp} {a : Addr} {o : HO} (h : Fr L H H') (ha : a ∈ L) : Fr L H (upd H' a o) := fun x u e n => by
  rw [upd_ne (fun z => n (by rw [z]; exact ha))]
  exact h x u e n
theorem DAt.same {α : Type} {U : List Str} {g : α → V} {H H' : Hp} {d : Addr} {f : Str → Option α} (h : DAt U g H d f) (s : Same H H') : DAt U g H' d f := by
  obtain ⟨kvs, e, r⟩ := h
  exact ⟨kvs, s _ _ e, r⟩
/-- the names that stand in a dict, in order -/
def Ord (f : Str → Bool) (ys : List Str) : Prop := ys.Nodup ∧ sortedS ys = true ∧ ∀ s, s ∈ ys ↔ f s = true
theorem setF_same {α : Type} (f : Str → Option α) (k : Str) (v : α) : setF f k v k = some v := if_pos rfl
theorem setF_ne {α : Type} {f : Str → Option α} {k x : Str} {v : α} (h : x ≠ k) : setF f k v x = f x := if_neg h
theorem unsF_same {α : Type} (f : Str → Option α) (k : Str) : unsF f k k = none := if_pos rfl
theorem unsF_ne {α : Type} {f : Str → Option α} {k x : Str} (h : x ≠ k) : unsF f k x = f x := if_neg h
theorem unsF_none {α : Type} {f : Str → Option α} {k : Str} (h : f k = none) : unsF f k = f := by
  funext s
  unfold unsF
  split
  · next e => rw [e, h]
  · rfl
/-! texts in order -/
def leS (x y : Str) : Prop := x.cps.toList ≤ y.cps.toList
theorem leS_of {x y : Str} (h : Spec.ltCps y.cps.toList x.cps.toList = false) : leS x y := by
  rw [ltCps_eq, decide_eq_false_iff_not] at h
  exact List.not_lt.mp h
theorem leS_trans {x y z : Str} (h : leS x y) (g : leS y z) : leS x z := List.le_trans h g
theorem str_ext2 {a b : Str} (h : a.cps.toList = b.cps.toList) : a = b := by
  cases a; cases b
  simp only [Str.mk.injEq]
  exact Array.toList_inj.mp h
theorem rising_pw : ∀ {l : List Str} {p : Str}, risingS p l = true → (p :: l).Pairwise leS
  | [], p, _ => List.pairwise_singleton _ _
  | x :: r, p, h => by
    unfold risingS at h
    rw [Bool.and_eq_true, Bool.not_eq_true'] at h
    have h1 := leS_of h.1
    have ih := rising_pw (l := r) (p := x) h.2
    refine List.pairwise_cons.mpr ⟨fun y hy => ?_, ih⟩
    rcases List.mem_cons.mp hy with e | hy
    · rw [e]; exact h1
    · exact leS_trans h1 ((List.pairwise_cons.mp ih).1 y hy)
theorem sorted_pw : ∀ {l : List Str}, sortedS l = true → l.Pairwise leS
  | [], _ => .nil
  | _ :: _, h => rising_pw h
theorem pw_uniq {a b : List Str} (h : a.Pairwise leS) (g : b.Pairwise leS) (p : a.Perm b) : a = b :=
  p.eq_of_pairwise (fun x y _ _ h1 h2 => str_ext2 (List.le_antisymm h1 h2)) h g
theorem nd_perm {a b : List Str} (na : a.Nodup) (nb : b.Nodup) (h : ∀ x, x ∈ a ↔ x ∈ b) : a.Perm b := (List.perm_ext_iff_of_nodup na nb).mpr h
theorem ord_uniq {f : Str → Bool} {a b : List Str} (h : Ord f a) (g : Ord f b) : a = b :=
  pw_uniq (sorted_pw h.2.1) (sorted_pw g.2.1) (nd_perm h.1 g.1 fun x => by rw [h.2.2, g.2.2])
/-! assumed binds -/
abbrev BD := Str → Option (Str × Int × Int)
abbrev RV := Str → Option Int
def tupB (t : Str × Int × Int) : HO := .tup [.str t.1, .int t.2.1, .int t.2.2]
def U4 : List Str := [Str.ofString "web/0", Str.ofString "web/1", Str.ofString "db/0", Str.ofString "a/9"]
/-- the dict of the binds -/
def BAt (H : Hp) (ab : Addr) (bd : BD) : Prop := ∃ kvs f, H ab = some (.dK kvs) ∧ DS U4 V.ref kvs f ∧ ∀ s, (f s = none ∧ bd s = none) ∨ ∃ a t, f s = some a ∧ bd s = some t ∧ H a = some (tupB t)
structure AP where
  p : Addr
  ab : Addr
  ar : Addr
def AP.all (a : AP) : List Addr := [a.p, a.ab, a.ar]
structure AT (C : Addr) (H : Hp) (a : AP) (bd : BD) (rv : RV) : Prop where
  ob : ∃ dx, H a.p = some (.ins C dx (fl_Assumed (.ref a.ab) (.ref a.ar)))
  hb : BAt H a.ab bd
  hr : DAt U4 V.int H a.ar rv
  ne : a.ab ≠ a.ar
theorem BAt.same {H H' : Hp} {ab : Addr} {bd : BD} (h : BAt H ab bd) (s : Same H H') : BAt H' ab bd := by
  obtain ⟨kvs, f, e, d, g⟩ := h
  refine ⟨kvs, f, s _ _ e, d, fun z => ?_⟩
  rcases g z with g | ⟨a, t, g1, g2, g3⟩
  · exact .inl g
  · exact .inr ⟨a, t, g1, g2, s _ _ g3⟩
theorem AT.same {C : Addr} {H H' : Hp} {a : AP} {bd : BD} {rv : RV} (h : AT C H a bd rv) (s : Same H H') : AT C H' a bd rv := by
  obtain ⟨dx, ob⟩ := h.ob
  exact ⟨⟨dx, s _ _ ob⟩, h.hb.same s, h.hr.same s, h.ne⟩
/-- what is none of the binds' things is left alone -/
theorem BAt.upd {H : Hp} {ab d : Addr} {o u : HO} {bd : BD} (h : BAt H ab bd) (hd : H d = some u) (h1 : d ≠ ab) (h2 : ∀ t, u ≠ tupB t) : BAt (upd H d o) ab bd := by
  obtain ⟨kvs, f, e, ds, g⟩ := h
  refine ⟨kvs, f, by rw [upd_ne h1.symm]; exact e, ds, fun z => ?_⟩
  rcases g z with g | ⟨a, t, g1, g2, g3⟩
  · exact .inl g
  · refine .inr ⟨a, t, g1, g2, ?_⟩
    rw [upd_ne (fun z => by rw [z, hd] at g3; exact h2 t (Option.some.inj g3))]
    exact g3
theorem BAt.iso {H : Hp} {ab : Addr} {bd : BD} {kvs : List (Key × V)} (h : BAt H ab bd) (e : H ab = some (.dK kvs)) : ∃ f, DS U4 V.ref kvs f ∧ ∀ s, (f s = none ∧ bd s = none) ∨ ∃ a t, f s = some a ∧ bd s = some t ∧ H a = some (tupB t) := by
  obtain ⟨kvs', f, e', d, g⟩ := h
  rw [e] at e'
  cases e'
  exact ⟨f, d, g⟩
def sp_anew (C : Addr) : Sp := fun vs H Q _ => ∃ (p dx : Addr), vs = [.ref p] ∧ H p = some (.ins C dx []) ∧ ∀ (a : AP) (H' : Hp), a.p = p → H a.ab = none → H a.ar = none → AT C H' a (fun _ => none) (fun _ => none) → Fr [p] H H' → Q .non H'
def sp_adrop (C : Addr) : Sp := fun vs H Q _ => ∃ (a : AP) (bd : BD) (rv : RV) (k : Str), vs = [.ref a.p, .str k] ∧ AT C H a bd rv ∧ ∀ H', AT C H' a (unsF bd k) (unsF rv k) → Fr a.all H H' → Q .non H'
def sp_aadd (C : Addr) : Sp := fun vs H Q _ => ∃ (a : AP) (bd : BD) (rv : RV) (k nd : Str) (sz bn : Int), vs = [.ref a.p, .str k, .str nd, .int sz, .int bn] ∧ AT C H a bd rv ∧ k ∈ U4 ∧ ∀ H', AT C H' a (setF (unsF bd k) k (nd, sz, bn)) (unsF rv k) → Fr a.all H H' → Q .non H'
def sp_ahas (C : Addr) : Sp := fun vs H Q _ => ∃ (a : AP) (bd : BD) (rv : RV) (k : Str), vs = [.ref a.p, .str k] ∧ AT C H a bd rv ∧ Q (.bl (bd k).isSome) H
def sp_adone (C : Addr) : Sp := fun vs H Q _ => ∃ (a : AP) (bd : BD) (rv : RV) (k : Str) (r : Int), vs = [.ref a.p, .str k, .int r] ∧ AT C H a bd rv ∧ k ∈ U4 ∧ ∀ H', AT C H' a bd (if (bd k).isSome = true then setF rv k r else rv) → Fr a.all H H' → Q .non H'
def sp_anames (C : Addr) : Sp := fun vs H Q _ => ∃ (a : AP) (bd : BD) (rv : RV), vs = [.ref a.p] ∧ AT C H a bd rv ∧ ∀ ys p H', Ord (fun s => (bd s).isSome) ys → H p = none → Same H H' → H' p = some (.lst (ys.map V.str)) → Q (.ref p) H'
def hitR (rv : RV) (r : Int) (s : Str) : Bool := match rv s with | some x => decide (x ≤ r) | none => false
def setB (bd : BD) (rv : RV) (r : Int) : BD := fun s => if hitR rv r s = true then none else bd s
def setR (rv : RV) (r : Int) : RV := fun s => if hitR rv r s = true then none else rv s
def sp_asettle (C : Addr) : Sp := fun vs H Q _ => ∃ (a : AP) (bd : BD) (rv : RV) (r : Int), vs = [.ref a.p, .int r] ∧ AT C H a bd rv ∧ (∀ s, (rv s).isSome = true → (bd s).isSome = true) ∧ ∀ H', AT C H' a (setB bd rv r) (setR rv r) → Fr a.all H H' → Q .non H'
def ndB (bd : BD) (s : Str) : Str := match bd s with | some t => t.1 | none => ""
def szB (bd : BD) (s : Str) : Int := match bd s with | some t => t.2.1 | none => 0
def bnB (bd : BD) (s : Str) : Int := match bd s with | some t => t.2.2 | none => 0
def sp_asize (C : Addr) : Sp := fun vs H Q _ => ∃ (a : AP) (bd : BD) (rv : RV) (nd : Str), vs = [.ref a.p, .str nd] ∧ AT C H a bd rv ∧ ∀ (ks : List Str) H', ks.Nodup → (∀ s, s ∈ ks ↔ (bd s).isSome = true) → Same H H' → Q (.int ((ks.filter fun s => decide (V.str (ndB bd s) = V.str nd)).map (szB bd)).sum) H'
def sp_acount (C : Addr) : Sp := fun vs H Q _ => ∃ (a : AP) (bd : BD) (rv : RV) (nd : Str) (bn : Int), vs = [.ref a.p, .str nd, .int bn] ∧ AT C H a bd rv ∧ ∀ (ks : List Str) H', ks.Nodup → (∀ s, s ∈ ks ↔ (bd s).isSome = true) → Same H H' → Q (.int (((ks.filter fun s => decide (V.str (ndB bd s) = V.str nd) && decide (V.int (bnB bd s) = V.int bn)).length : Nat) : Int)) H'
section
variable {P : Program} {w : World} {K : PySem.W.Frag} {mg : Str → Option Value} {base : Heap}
theorem ok_Assumed___init__ (T : TX K mg) : FnOk P w K mg base CX0 1 T.a_Assumed___init__ T.d_Assumed___init__ ["self"] (sp_anew T.a_Assumed) := by
  refine T.F_Assumed___init__.ok sc_Assumed___init__ (fun vs H Q E h => ?_) (fun cdv A outer s H vs Q E hr h => ?_)
  · obtain ⟨p, dx, rfl, _⟩ := h
    rfl
  · obtain ⟨p, dx, rfl, hp, c⟩ := h
    refine ⟨_, (pss_cons (ps_fld (pv 0) pe_dnewK rfl)
      (pss_one (ps_fld (pv 0) pe_dnewK rfl))), ?_⟩
    refine fun ab hab => ⟨_, rfl, p, T.a_Assumed, dx, [], rfl, by rw [upd_ne (ne_of_none hp hab)]; exact hp, T.K_Assumed, T.na_Assumed__binds, (by show 0 < 1000; decide), ?_⟩
    have n1 : ab ≠ p := (ne_of_none hp hab).symm
    refine fun ar har => ⟨_, rfl, p, T.a_Assumed, dx, _, rfl, by rw [upd_ne (fun z => by rw [← z, upd_same] at har; cases har), upd_same], T.K_Assumed, T.na_Assumed__revisions, (by show 1 < 1000; decide), ?_⟩
    have n2 : ar ≠ p := fun z => by rw [z, upd_same] at har; cases har
    rw [upd_ne n2] at har
    have n3 : ar ≠ ab := fun z => by rw [z, upd_same] at har; cases har
    rw [upd_ne n3] at har
    refine c ⟨p, ab, ar⟩ _ rfl hab har ⟨⟨dx, ?_⟩, ⟨[], fun _ => none, ?_, ds_nil, fun s => .inl ⟨rfl, rfl⟩⟩, ⟨[], ?_, ds_nil⟩, n3.symm⟩ ?_
    · rw [upd_same, fl_Assumed_new]
    · show upd _ p _ ab = _
      rw [upd_ne n1, upd_ne n3.symm, upd_ne n1, upd_same]
    · show upd _ p _ ar = _
      rw [upd_ne n2, upd_same]
    · intro x o hx hxp
      have hxp' : x ≠ p := by simpa using hxp
      rw [upd_ne hxp', upd_ne (ne_of_none hx har), upd_ne hxp', upd_ne (ne_of_none hx hab)]
      exact hx
theorem ok_Assumed_drop (T : TX K mg) : FnOk P w K mg base CX0 1 T.a_Assumed_drop T.d_Assumed_drop ["self", "task"] (sp_adrop T.a_Assumed) := by
  refine T.F_Assumed_drop.ok sc_Assumed_drop (fun vs H Q E h => ?_) (fun cdv A outer s H vs Q E hr h => ?_)
  · obtain ⟨a, bd, rv, k, rfl, _⟩ := h
    rfl
  · obtain ⟨a, bd, rv, k, rfl, hA, c⟩ := h
    refine ⟨_, (C8.pss_cut (ps_expr (pe_dpop2 (pe_fld (pv 0) rfl) (pv 1) pe_non ⟨rfl, rfl, rfl, rfl⟩))
      (pss_one (ps_expr (pe_dpop2 (pe_fld (pv 0) rfl) (pv 1) pe_non ⟨rfl, rfl, rfl, rfl⟩)))), ?_⟩
    obtain ⟨⟨dx, ob⟩, hb, hr1, hne⟩ := hA
    refine ⟨fun σ' G => σ' = [some (.ref a.p), some (.str k)] ∧ AT T.a_Assumed G a (unsF bd k) rv ∧ Fr a.all H G, ?_, ?_⟩
    rotate_left
    · rintro σ' G ⟨rfl, hG, fr⟩
      obtain ⟨⟨dx, ob⟩, hb, ⟨k2, e2, d2⟩, hne⟩ := hG
      have npr : a.p ≠ a.ar := fun z => by rw [z, e2] at ob; cases ob
      refine ⟨_, rfl, a.p, _, dx, _, _, rfl, ob, T.K_Assumed, T.na_Assumed__revisions, fl_Assumed__revisions, a.ar, rfl, .inl ⟨_, .inl e2⟩, _, rfl, k2, Sum.inr k, e2, rfl, fun v hv => ?_, fun hv => ?_⟩
      · exact c _ ⟨⟨dx, by rw [upd_ne npr]; exact ob⟩, hb.upd e2 hne.symm (by intro t z; cases z), ⟨_, upd_same, ds_drop d2 k⟩, hne⟩ (fr.up (by simp [AP.all]))
      · have hn : rv k = none := by
          have := d2.vl k
          rw [hv] at this
          cases e : rv k with
          | none => rfl
          | some x => rw [e] at this; cases this
        exact c G ⟨⟨dx, ob⟩, hb, ⟨k2, e2, by rw [unsF_none hn]; exact d2⟩, hne⟩ fr
    obtain ⟨k1, f, e1, d1, g1⟩ := hb
    obtain ⟨k2, e2, d2⟩ := hr1
    have npb : a.p ≠ a.ab := fun z => by rw [z, e1] at ob; cases ob
    refine ⟨_, rfl, a.p, _, dx, _, _, rfl, ob, T.K_Assumed, T.na_Assumed__binds, fl_Assumed__binds, a.ab, rfl, .inl ⟨_, .inl e1⟩, _, rfl, k1, Sum.inr k, e1, rfl, fun v hv => ?_, fun hv => ?_⟩
    · refine ⟨rfl, ⟨⟨dx, by rw [upd_ne npb]; exact ob⟩, ⟨_, unsF f k, upd_same, ds_drop d1 k, fun z => ?_⟩, ⟨k2, by rw [upd_ne hne.symm]; exact e2, d2⟩, hne⟩, ((Fr.refl _ _).up (by simp [AP.all]))⟩
      by_cases hz : z = k
      · rw [hz, unsF_same, unsF_same]
        exact .inl ⟨rfl, rfl⟩
      · rw [unsF_ne hz, unsF_ne hz]
        rcases g1 z with g | ⟨x, t, h1, h2, h3⟩
        · exact .inl g
        · refine .inr ⟨x, t, h1, h2, ?_⟩
          rw [upd_ne (fun y => by rw [y, e1] at h3; cases h3)]
          exact h3
    · have hn : f k = none := by
        have := d1.vl k
        rw [hv] at this
        cases e : f k with
        | none => rfl
        | some x => rw [e] at this; cases this
      have hb0 : bd k = none := by
        rcases g1 k with g | ⟨x, t, h1, _⟩
        · exact g.2
        · rw [hn] at h1; cases h1
      exact ⟨rfl, ⟨⟨dx, ob⟩, by rw [unsF_none hb0]; exact ⟨k1, f, e1, d1, g1⟩, ⟨k2, e2, d2⟩, hne⟩, Fr.refl _ _⟩
theorem ok_Assumed_has (T : TX K mg) : FnOk P w K mg base CX0 1 T.a_Assumed_has T.d_Assumed_has ["self", "task"] (sp_ahas T.a_Assumed) := by
  refine T.F_Assumed_has.ok sc_Assumed_has (fun vs H Q E h => ?_) (fun cdv A outer s H vs Q E hr h => ?_)
  · obtain ⟨a, bd, rv, k, rfl, _⟩ := h
    rfl
  · obtain ⟨a, bd, rv, k, rfl, hA, c⟩ := h
    refine ⟨_, (pss_one (ps_ret (pe_cmp (pc_din (hu_of hr) (pv 1) (pe_fld (pv 0) rfl)) rfl))), ?_⟩
    obtain ⟨⟨dx, ob⟩, ⟨k1, f, e1, d1, g1⟩, hr1, hne⟩ := hA
    refine ⟨_, rfl, _, rfl, a.p, _, dx, _, _, rfl, ob, T.K_Assumed, T.na_Assumed__binds, fl_Assumed__binds, a.ab, _, rfl, DGet.k (k := Sum.inr k) e1, ?_⟩
    have : (valV k1 (Sum.inr k)).isSome = (bd k).isSome := by
      rw [d1.vl k]
      rcases g1 k with g | ⟨x, t, h1, h2, _⟩
      · rw [g.1, g.2]; rfl
      · rw [h1, h2]; rfl
    rw [this]
    exact c
theorem ok_Assumed_add (T : TX K mg) : FnOk P w K mg base CX0 2 T.a_Assumed_add T.d_Assumed_add ["self", "task", "node", "size", "service_born"] (sp_aadd T.a_Assumed) := by
  refine T.F_Assumed_add.ok sc_Assumed_add (fun vs H Q E h => ?_) (fun cdv A outer s H vs Q E hr h => ?_)
  · obtain ⟨a, bd, rv, k, nd, sz, bn, rfl, _⟩ := h
    rfl
  · obtain ⟨a, bd, rv, k, nd, sz, bn, rfl, hA, hU, c⟩ := h
    refine ⟨_, (pss_cons (ps_expr (pe_meth (pv 0) T.K_Assumed T.m_Assumed_drop (ok_Assumed_drop T) (hr.mono (by decide)) T.b_Assumed_drop .nil pass0 (pa_cons (pv 1) pa_nil)))
      (pss_one (ps_dput (hu_of hr) (pe_fld (pv 0) rfl) (pv 1) (pe_tup (pa_cons (pv 2) (pa_cons (pv 3) (pa_cons (pv 4) pa_nil)))) rfl))), ?_⟩
    obtain ⟨dx, ob⟩ := hA.ob
    refine ⟨_, rfl, a.p, dx, _, rfl, ob, fl_Assumed_no_drop, _, rfl, a, bd, rv, k, rfl, hA, fun G hG fr => ?_⟩
    obtain ⟨⟨dx, ob⟩, ⟨k1, f, e1, d1, g1⟩, ⟨k2, e2, d2⟩, hne⟩ := hG
    have npb : a.p ≠ a.ab := fun z => by rw [z, e1] at ob; cases ob
    have l1 := ds_len d1
    have u4 : U4.length ≤ 4 := by decide +kernel
    refine ⟨_, rfl, _, rfl, _, rfl, (by show 3 ≤ sizeLine; decide), fun t ht => ?_⟩
    have s1 := same_upd (o := .tup [.str nd, .int sz, .int bn]) ht
    refine ⟨_, rfl, a.p, _, dx, _, _, rfl, s1 _ _ ob, T.K_Assumed, T.na_Assumed__binds, fl_Assumed__binds, _, rfl, a.ab, _, rfl, DPut.k (k := Sum.inr k) (s1 _ _ e1) (szl (by omega)), ?_⟩
    have ntb : t ≠ a.ab := fun z => by rw [z, e1] at ht; cases ht
    refine c _ ⟨⟨dx, by rw [upd_ne npb]; exact s1 _ _ ob⟩, ⟨_, setF f k t, upd_same, ds_put d1 hU t, fun z => ?_⟩, ⟨k2, by rw [upd_ne hne.symm]; exact s1 _ _ e2, d2⟩, hne⟩ ((fr.trans (Fr.of_same s1)).up (by simp [AP.all]))
    by_cases hz : z = k
    · rw [hz, setF_same, setF_same]
      exact .inr ⟨t, _, rfl, rfl, by rw [upd_ne ntb, upd_same]; rfl⟩
    · rw [setF_ne hz, setF_ne hz]
      rcases g1 z with g | ⟨x, y, h1, h2, h3⟩
      · exact .inl g
      · refine .inr ⟨x, y, h1, h2, ?_⟩
        rw [upd_ne (fun y => by rw [y, e1] at h3; cases h3)]
        exact s1 _ _ h3
theorem ok_Assumed_done (T : TX K mg) : FnOk P w K mg base CX0 2 T.a_Assumed_done T.d_Assumed_done ["self", "task", "revision"] (sp_adone T.a_Assumed) := by
  refine T.F_Assumed_done.ok sc_Assumed_done (fun vs H Q E h => ?_) (fun cdv A outer s H vs Q E hr h => ?_)
  · obtain ⟨a, bd, rv, k, r, rfl, _⟩ := h
    rfl
  · obtain ⟨a, bd, rv, k, r, rfl, hA, hU, c⟩ := h
    refine ⟨_, (pss_one (ps_if (pt_val (pe_meth (pv 0) T.K_Assumed T.m_Assumed_has (ok_Assumed_has T) (hr.mono (by decide)) T.b_Assumed_has .nil pass0 (pa_cons (pv 1) pa_nil))) (pss_one (ps_dput (hu_of hr) (pe_fld (pv 0) rfl) (pv 1) (pv 2) rfl)) pss_nil)), ?_⟩
    obtain ⟨dx, ob⟩ := hA.ob
    have hA0 := hA
    obtain ⟨⟨dx, ob⟩, hb, ⟨k2, e2, d2⟩, hne⟩ := hA
    have npr : a.p ≠ a.ar := fun z => by rw [z, e2] at ob; cases ob
    have l2 := ds_len d2
    have u4 : U4.length ≤ 4 := by decide +kernel
    refine ⟨_, rfl, a.p, dx, _, rfl, ob, fl_Assumed_no_has, _, rfl, a, bd, rv, k, rfl, hA0, _, rfl, ifb2 (fun h => ?_) (fun h => ?_)⟩
    · rw [if_pos h] at c
      refine ⟨_, rfl, _, rfl, a.p, _, dx, _, _, rfl, ob, T.K_Assumed, T.na_Assumed__revisions, fl_Assumed__revisions, _, rfl, a.ar, _, rfl, DPut.k (k := Sum.inr k) e2 (szl (by omega)), ?_⟩
      exact c _ ⟨⟨dx, by rw [upd_ne npr]; exact ob⟩, hb.upd e2 hne.symm (by intro t z; cases z), ⟨_, upd_same, ds_put d2 hU r⟩, hne⟩ ((Fr.refl _ _).up (by simp [AP.all]))
    · rw [if_neg (by simp [h])] at c
      exact c H hA0 (Fr.refl _ _)
theorem ok_Assumed_names (T : TX K mg) : FnOk P w K mg base CX0 1 T.a_Assumed_names T.d_Assumed_names ["self"] (sp_anames T.a_Assumed) := by
  refine T.F_Assumed_names.ok sc_Assumed_names (fun vs H Q E h => ?_) (fun cdv A outer s H vs Q E hr h => ?_)
  · obtain ⟨a, bd, rv, rfl, _⟩ := h
    rfl
  · obtain ⟨a, bd, rv, rfl, hA, c⟩ := h
    refine ⟨_, (pss_one (ps_ret (pe_callB (call_sortedD rfl) (by rfl) T.n_sorted (by decide +kernel) (pa_cons (pe_fld (pv 0) rfl) pa_nil)))), ?_⟩
    obtain ⟨⟨dx, ob⟩, ⟨k1, f, e1, d1, g1⟩, hr1, hne⟩ := hA
    have l1 := ds_len d1
    have u4 : U4.length ≤ 4 := by decide +kernel
    refine ⟨_, rfl, a.p, _, dx, _, _, rfl, ob, T.K_Assumed, T.na_Assumed__binds, fl_Assumed__binds, a.ab, k1, _, rfl, .inl e1, keys_map d1, by rw [List.length_map]; omega, fun ys p hp hs hf => ?_⟩
    refine c ys p _ ⟨hp.nodup_iff.mpr (keys_nd d1), hs, fun s => ?_⟩ hf (same_upd hf) upd_same
    rw [hp.mem_iff, key_iff d1]
    show (f s).isSome = true ↔ (bd s).isSome = true
    rcases g1 s with g | ⟨x, t, h1, h2, _⟩
    · rw [g.1, g.2]; rfl
    · rw [h1, h2]; rfl
end
def remL {α : Type} (rv : RV) (r : Int) (l : List Str) (f : Str → Option α) : Str → Option α := fun s => if s ∈ l ∧ hitR rv r s = true then none else f s
theorem remL_hit {α : Type} {rv : RV} {r : Int} {l : List Str} {f : Str → Option α} {y : Str} (h : hitR rv r y = true) : unsF (remL rv r l f) y = remL rv r (l ++ [y]) f := by
  funext s
  unfold unsF remL
  by_cases e : s = y
  · rw [if_pos e, if_pos ⟨by rw [e]; simp, by rw [e]; exact h⟩]
  · rw [if_neg e]
    have : (s ∈ l ++ [y] ∧ hitR rv r s = true) ↔ (s ∈ l ∧ hitR rv r s = true) := by simp [e]
    simp only [this]
theorem remL_not {α : Type} {rv : RV} {r : Int} {l : List Str} {f : Str → Option α} {y : Str} (h : hitR rv r y = false) : remL rv r (l ++ [y]) f = remL rv r l f := by
  funext s
  unfold remL
  by_cases e : s = y
  · rw [if_neg (by rw [e, h]; simp), if_neg (by rw [e, h]; simp)]
  · have : (s ∈ l ++ [y] ∧ hitR rv r s = true) ↔ (s ∈ l ∧ hitR rv r s = true) := by simp [e]
    simp only [this]
theorem remL_out {α : Type} {rv : RV} {r : Int} {l : List Str} {f : Str → Option α} {y : Str} (h : y ∉ l) : remL rv r l f y = f y := if_neg fun z => h z.1
section
variable {P : Program} {w : World} {K : PySem.W.Frag} {mg : Str → Option Value} {base : Heap}
theorem ok_Assumed_settle (T : TX K mg) : FnOk P w K mg base CX0 2 T.a_Assumed_settle T.d_Assumed_settle ["self", "revision"] (sp_asettle T.a_Assumed) := by
  refine T.F_Assumed_settle.ok sc_Assumed_settle (fun vs H Q E h => ?_) (fun cdv A outer s H vs Q E hr h => ?_)
  · obtain ⟨a, bd, rv, r, rfl, _⟩ := h
    rfl
  · obtain ⟨a, bd, rv, r, rfl, hA, hrb, c⟩ := h
    refine ⟨_, (pss_one (ps_for PassesOwn.never rfl (pi_list (pe_meth0 (pv 0) T.K_Assumed T.m_Assumed_names (ok_Assumed_names T) (hr.mono (by decide)) T.b_Assumed_names .nil pass0)) (pg_name (i := 2) sc_Assumed_settle.nd rfl (Or.inl rfl))
        (pss_one (ps_if (PW.pt (pw_and (pt_cmp (pc_din (hu_of hr) (pv 2) (pe_fld (pv 0) rfl))) (pw_and1 (pt_cmpR op_le (pe_dget (hu_of hr) (pe_fld (pv 0) rfl) (pv 2) (fun _ _ => rfl)) (pv 1) (nomark _))))) (pss_one (ps_expr (pe_meth (pv 0) T.K_Assumed T.m_Assumed_drop (ok_Assumed_drop T) (hr.mono (by decide)) T.b_Assumed_drop .nil pass0 (pa_cons (pv 2) pa_nil)))) pss_nil)))), ?_⟩
    obtain ⟨dx, ob⟩ := hA.ob
    refine ⟨_, rfl, a.p, dx, _, rfl, ob, fl_Assumed_no_names, a, bd, rv, rfl, hA, fun ys L H1 hO hL s1 eL => ⟨L, rfl, ⟨_, sql eL⟩, ?_⟩⟩
    have hA1 := hA.same s1
    have hLn : L ∉ a.all := by
      obtain ⟨⟨dx, ob⟩, ⟨k1, f, e1, _⟩, ⟨k2, e2, _⟩, _⟩ := hA
      simp only [AP.all, List.mem_cons, List.not_mem_nil, or_false, not_or]
      exact ⟨(fun z => by rw [z, ob] at hL; cases hL), (fun z => by rw [z, e1] at hL; cases hL), (fun z => by rw [z, e2] at hL; cases hL)⟩
    refine for_list (K := K) (a := L) (xs := ys.map V.str) (fun i σ G => ∃ x2, σ = [some (.ref a.p), some (.int r), x2] ∧ AT T.a_Assumed G a (remL rv r (ys.take i) bd) (remL rv r (ys.take i) rv) ∧ Fr a.all H G ∧ G L = some (.lst (ys.map V.str)))
      ⟨none, rfl, by have e0 : ∀ {α : Type} (f : Str → Option α), remL rv r (ys.take 0) f = f := fun f => by funext s; unfold remL; simp
                     rw [e0, e0]; exact hA1, Fr.of_same s1, eL⟩ (fun i σ G _ ⟨_, _, _, _, h⟩ => sql h) ?_ ?_
    · rintro i x σ G hx ⟨x2, rfl, hG, fr, e3⟩
      obtain ⟨y, hy, rfl⟩ := map_at hx
      have hyt : y ∉ ys.take i := fun z => by
        have h1 : ys.take (i + 1) = ys.take i ++ [y] := take_more hy
        have h2 : (ys.take (i + 1)).Nodup := (List.take_sublist _ _).nodup hO.1
        rw [h1] at h2
        exact (List.nodup_append.mp h2).2.2 y z y (by simp) rfl
      have hG0 := hG
      obtain ⟨⟨dx, ob⟩, hb, ⟨k2, e2, d2⟩, hne⟩ := hG
      have hv : valV k2 (Sum.inr y) = (rv y).map V.int := by rw [d2.vl y, remL_out hyt]
      have skip : hitR rv r y = false → ∃ x2, [some (V.ref a.p), some (V.int r), some (V.str y)] = [some (V.ref a.p), some (V.int r), x2] ∧ AT T.a_Assumed G a (remL rv r (ys.take (i + 1)) bd) (remL rv r (ys.take (i + 1)) rv) ∧ Fr a.all H G ∧ G L = some (.lst (ys.map V.str)) := fun h => ⟨_, rfl, by rw [take_more hy, remL_not h, remL_not h]; exact hG0, fr, e3⟩
      refine ⟨_, rfl, _, rfl, a.p, _, dx, _, _, rfl, ob, T.K_Assumed, T.na_Assumed__revisions, fl_Assumed__revisions, a.ar, _, rfl, DGet.k (k := Sum.inr y) e2, _, rfl, ?_⟩
      rw [hv]
      cases hr0 : rv y with
      | none => exact ifbf rfl (ifbf rfl (skip (by unfold hitR; rw [hr0])))
      | some t =>
        rw [hr0] at hv
        refine ifbt rfl ⟨_, rfl, a.p, _, dx, _, _, rfl, ob, T.K_Assumed, T.na_Assumed__revisions, fl_Assumed__revisions, _, rfl, a.ar, .int t, rfl, by rw [show some (V.int t) = valV k2 (Sum.inr y) by rw [hv]; rfl]; exact DGet.k (k := Sum.inr y) e2, _, rfl, _, _, rfl, rfl, _, rfl, ifd (fun h => ?_) (fun h => ?_)⟩
        · have hh : hitR rv r y = true := by unfold hitR; rw [hr0]; exact decide_eq_true h
          refine ⟨_, rfl, a.p, dx, _, rfl, ob, fl_Assumed_no_drop, _, rfl, a, _, _, y, rfl, hG0, fun G2 hG2 fr2 => ?_⟩
          rw [remL_hit hh, remL_hit hh] at hG2
          exact ⟨_, rfl, by rw [take_more hy]; exact hG2, fr.trans fr2, fr2 _ _ e3 hLn⟩
        · exact skip (by unfold hitR; rw [hr0]; exact decide_eq_false h)
    · rintro σ G ⟨x2, rfl, hG, fr, e3⟩
      rw [List.length_map, List.take_length] at hG
      have hin : ∀ s, hitR rv r s = true → s ∈ ys := fun s h => by
        rw [hO.2.2]
        refine hrb s ?_
        unfold hitR at h
        cases e : rv s with
        | none => rw [e] at h; cases h
        | some x => rfl
      have eB : ∀ {α : Type} (f : Str → Option α), remL rv r ys f = fun s => if hitR rv r s = true then none else f s := fun f => by
        funext s
        unfold remL
        by_cases h : hitR rv r s = true
        · rw [if_pos ⟨hin s h, h⟩, if_pos h]
        · rw [if_neg (fun z => h z.2), if_neg h]
      rw [eB, eB] at hG
      exact c G hG fr
theorem bd_get {H : Hp} {bd : BD} {f : Str → Option Addr} {kvs : List (Key × V)} (d : DS U4 V.ref kvs f) (g : ∀ s, (f s = none ∧ bd s = none) ∨ ∃ a t, f s = some a ∧ bd s = some t ∧ H a = some (tupB t)) {i : Nat} {k : Key} {v : V} (h : kvs[i]? = some (k, v)) :
    ∃ s a t, k = Sum.inr s ∧ keyS k = s ∧ valV kvs k = some (.ref a) ∧ bd s = some t ∧ H a = some (tupB t) := by
  obtain ⟨s, _, e⟩ := d.ks _ (List.mem_of_getElem? h)
  have e : k = Sum.inr s := e
  subst e
  have hm : s ∈ kvs.map fun kv => keyS kv.1 := List.mem_map.mpr ⟨_, List.mem_of_getElem? h, rfl⟩
  have hs := (key_iff d s).mp hm
  rcases g s with g1 | ⟨a, t, h1, h2, h3⟩
  · rw [g1.1] at hs; cases hs
  · exact ⟨s, a, t, rfl, rfl, by rw [d.vl s, h1]; rfl, h2, h3⟩
theorem ok_Assumed_size_on (T : TX K mg) : FnOk P w K mg base CX0 1 T.a_Assumed_size_on T.d_Assumed_size_on ["self", "node"] (sp_asize T.a_Assumed) := by
  refine T.F_Assumed_size_on.ok sc_Assumed_size_on (fun vs H Q E h => ?_) (fun cdv A outer s H vs Q E hr h => ?_)
  · obtain ⟨a, bd, rv, nd, rfl, _⟩ := h
    rfl
  · obtain ⟨a, bd, rv, nd, rfl, hA, c⟩ := h
    refine ⟨_, (pss_one (ps_ret (pe_callB (cr_sum rfl) (by rfl) T.n_sum (by decide +kernel) (pa_cons (pe_lock (pe_lc (own := [("task", 2)]) (g := gName 2)  (by rfl) sc_Assumed_size_on.nd (pi_keys (pe_fld (pv 0) rfl)) (blkOk_by (own := [("task", 2)]) (N := ["self", "node", "task"]) (sc := defScope s_Assumed_size_on) (by decide +kernel)) (fun _ _ _ _ _ => pg_name (i := 2) sc_Assumed_size_on.nd rfl (Or.inl rfl)) (fun _ _ _ _ _ => pts_one (pt_cmpR op_eq (pe_ix (ixK_tup (K := K) rfl) (pe_dget (hu_of hr) (pe_fldK (K := K) rfl (pv 0) rfl) (pv 2) (fun _ _ => rfl)) (pe_glob (v := .int 0) (by rfl) T.c_NODE ⟨_, rfl⟩) (fun _ _ => rfl)) (pv 1) (nomark _))) (fun _ _ _ _ _ => (pe_ix (ixK_tup (K := K) rfl) (pe_dget (hu_of hr) (pe_fldK (K := K) rfl (pv 0) rfl) (pv 2) (fun _ _ => rfl)) (pe_glob (v := .int 1) (by rfl) T.c_SIZE ⟨_, rfl⟩) (fun _ _ => rfl))))) pa_nil)))), ?_⟩
    obtain ⟨⟨dx, ob⟩, ⟨k1, f, e1, d1, g1⟩, hr1, hne⟩ := hA
    have npb : a.p ≠ a.ab := fun z => by rw [z, e1] at ob; cases ob
    have l1 := ds_len d1
    have u4 : U4.length ≤ 4 := by decide +kernel
    skip
    refine lc_keys (s := 2) a.ab k1 (fun k => decide (V.str (ndB bd (keyS k)) = V.str nd)) (fun k => .int (szB bd (keyS k))) e1 (by omega) (fun od => ei_fld rfl (by rw [upd_ne npb]; exact ob) T.K_Assumed T.na_Assumed__binds fl_Assumed__binds) (fun _ => rfl) (fun od i k v G Q' hk s q => ?_) (fun od i k v G Q' hk s q => ?_) (fun D H' hD hs hl => ?_)
    · obtain ⟨z, x, t, rfl, hz, hv, hb, hx⟩ := bd_get d1 g1 hk
      have gp : G a.p = some (.ins T.a_Assumed dx (fl_Assumed (.ref a.ab) (.ref a.ar))) := s _ _ (by rw [upd_ne npb]; exact ob)
      have gx : G x = some (tupB t) := s _ _ (by rw [upd_ne (fun y => by rw [y, e1] at hx; cases hx)]; exact hx)
      refine ⟨_, rfl, a.p, _, dx, _, _, rfl, gp, T.K_Assumed, T.na_Assumed__binds, fl_Assumed__binds, _, rfl, a.ab, .ref x, rfl, by rw [← hv]; exact .inl ⟨k1, Sum.inr z, .inr ⟨od, s _ _ upd_same⟩, rfl, rfl⟩, x, _, 0, _, rfl, rfl, sqt gx, atI_nat (j := 0) rfl, _, rfl, rfl, _, rfl, ?_⟩
      have : ndB bd (keyS (Sum.inr z)) = t.1 := by show ndB bd z = t.1; unfold ndB; rw [hb]
      rw [this] at q
      exact q
    · obtain ⟨z, x, t, rfl, hz, hv, hb, hx⟩ := bd_get d1 g1 hk
      have gp : G a.p = some (.ins T.a_Assumed dx (fl_Assumed (.ref a.ab) (.ref a.ar))) := s _ _ (by rw [upd_ne npb]; exact ob)
      have gx : G x = some (tupB t) := s _ _ (by rw [upd_ne (fun y => by rw [y, e1] at hx; cases hx)]; exact hx)
      refine ⟨_, rfl, a.p, _, dx, _, _, rfl, gp, T.K_Assumed, T.na_Assumed__binds, fl_Assumed__binds, _, rfl, a.ab, .ref x, rfl, by rw [← hv]; exact .inl ⟨k1, Sum.inr z, .inr ⟨od, s _ _ upd_same⟩, rfl, rfl⟩, x, _, 1, _, rfl, rfl, sqt gx, atI_nat (j := 1) rfl, ?_⟩
      have : szB bd (keyS (Sum.inr z)) = t.2.1 := by show szB bd z = t.2.1; unfold szB; rw [hb]
      rw [this] at q
      exact q
    · have hmm : ((k1.filter fun kv => decide (V.str (ndB bd (keyS kv.1)) = V.str nd)).map fun kv => V.int (szB bd (keyS kv.1))) = ((((k1.map fun kv => keyS kv.1).filter fun s => decide (V.str (ndB bd s) = V.str nd)).map (szB bd)).map V.int) := by
        rw [List.filter_map, List.map_map, List.map_map]
        rfl
      rw [hmm] at hl
      refine ⟨D, _, rfl, sql hl, ?_⟩
      refine c _ H' (keys_nd d1) (fun s => ?_) hs
      rw [key_iff d1]
      rcases g1 s with g | ⟨x, t, h1, h2, _⟩
      · rw [g.1, g.2]; rfl
      · rw [h1, h2]; rfl
theorem lock_set {wi : TI} {g : TG} {tt : TT} {te : TE} {vs : List Nat} {i : Nat} {D : L2.Ends} {σ : L2.St} {H : Hp} (h : tLockE (tLc wi g tt te vs) σ H (fun v H' => gName i v σ H' D.nx)) : tLock (tAsg (tLc wi g tt te vs) (gName i)) D σ H := h
theorem ok_Assumed_count_on (T : TX K mg) : FnOk P w K mg base CX0 1 T.a_Assumed_count_on T.d_Assumed_count_on ["self", "node", "service_born"] (sp_acount T.a_Assumed) := by
  refine T.F_Assumed_count_on.ok sc_Assumed_count_on (fun vs H Q E h => ?_) (fun cdv A outer s H vs Q E hr h => ?_)
  · obtain ⟨a, bd, rv, nd, bn, rfl, _⟩ := h
    rfl
  · obtain ⟨a, bd, rv, nd, bn, rfl, hA, c⟩ := h
    refine ⟨_, (pss_cons (ps_lock (ps_setLc (i := 3) (own := [("task", 4)]) (g := gName 4) (tt := tYes) (by rfl) sc_Assumed_count_on.nd rfl rfl (sw_true rfl rfl rfl (by decide +kernel)) (pi_keys (pe_fld (pv 0) rfl)) (blkOk_by (own := [("task", 4)]) (N := ["self", "node", "service_born", "binds", "task", "bind"]) (sc := defScope s_Assumed_count_on) (by decide +kernel)) (fun _ _ _ _ _ => pg_name (i := 4) sc_Assumed_count_on.nd rfl (Or.inl rfl)) (fun _ _ _ _ _ => pts_nil) (fun _ _ _ _ _ => (pe_dget (hu_of hr) (pe_fldK (K := K) rfl (pv 0) rfl) (pv 4) (fun _ _ => rfl)))))
      (pss_one (ps_ret (pe_callB call_len_seq (by rfl) T.n_len PySem.boot_len (pa_cons (pe_lc (own := [("bind", 5)]) (g := gName 5)  (by rfl) sc_Assumed_count_on.nd (pi_list (pv 3)) (blkOk_by (own := [("bind", 5)]) (N := ["self", "node", "service_born", "binds", "task", "bind"]) (sc := defScope s_Assumed_count_on) (by decide +kernel)) (fun _ _ _ _ _ => pg_name (i := 5) sc_Assumed_count_on.nd rfl (Or.inl rfl)) (fun _ _ _ _ _ => pts_one (PW.pt (pw_and (pt_cmpR op_eq (pe_ix (ixK_tup (K := K) rfl) (pv 5) (pe_glob (v := .int 0) (by rfl) T.c_NODE ⟨_, rfl⟩) (fun _ _ => rfl)) (pv 1) (nomark _)) (pw_and1 (pt_cmpR op_eq (pe_ix (ixK_tup (K := K) rfl) (pv 5) (pe_glob (v := .int 2) (by rfl) T.c_SERVICE_BORN ⟨_, rfl⟩) (fun _ _ => rfl)) (pv 2) (nomark _)))))) (fun _ _ _ _ _ => (pv 5))) pa_nil))))), ?_⟩
    obtain ⟨⟨dx, ob⟩, ⟨k1, f, e1, d1, g1⟩, hr1, hne⟩ := hA
    have npb : a.p ≠ a.ab := fun z => by rw [z, e1] at ob; cases ob
    have l1 := ds_len d1
    have u4 : U4.length ≤ 4 := by decide +kernel
    refine nrm6 rfl ?_
    refine lock_set ?_
    refine lc_keys (s := 4) a.ab k1 (fun k => true) (fun k => (valV k1 k).getD .non) e1 (by omega) (fun od => ei_fld rfl (by rw [upd_ne npb]; exact ob) T.K_Assumed T.na_Assumed__binds fl_Assumed__binds) (fun _ => rfl) (fun od i k v G Q' _ _ q => q) (fun od i k v G Q' hk s q => ?_) (fun D H' hD hs hl => ?_)
    · obtain ⟨z, x, t, rfl, hz, hv, hb, hx⟩ := bd_get d1 g1 hk
      have gp : G a.p = some (.ins T.a_Assumed dx (fl_Assumed (.ref a.ab) (.ref a.ar))) := s _ _ (by rw [upd_ne npb]; exact ob)
      refine ⟨_, rfl, a.p, _, dx, _, _, rfl, gp, T.K_Assumed, T.na_Assumed__binds, fl_Assumed__binds, _, rfl, a.ab, .ref x, rfl, by rw [← hv]; exact .inl ⟨k1, Sum.inr z, .inr ⟨od, s _ _ upd_same⟩, rfl, rfl⟩, ?_⟩
      rw [hv] at q
      exact q
    · refine gnm6 rfl ?_
      have hks := keys_nd d1
      have hki := fun s => key_iff d1 s
      have hall : k1.filter (fun _ => true) = k1 := List.filter_eq_self.mpr (by simp)
      rw [hall] at hl
      let ks := k1.map fun kv => keyS kv.1
      have hks0 : ∀ s ∈ ks, (bd s).isSome = true := fun s hm => by
        have := (hki s).mp hm
        rcases g1 s with g | ⟨x, t, h1, h2, _⟩
        · rw [g.1] at this; cases this
        · rw [h2]; rfl
      have hdp : DpAll K H' (k1.map fun kv => (valV k1 kv.1).getD .non) (ks.map fun s => .tuple [.str (ndB bd s), .int (szB bd s), .int (bnB bd s)]) := by
        have go : ∀ l : List (Key × V), (∀ kv ∈ l, kv ∈ k1) → DpAll K H' (l.map fun kv => (valV k1 kv.1).getD .non) ((l.map fun kv => keyS kv.1).map fun s => .tuple [.str (ndB bd s), .int (szB bd s), .int (bnB bd s)]) := by
          intro l
          induction l with
          | nil => intro _; exact .nil
          | cons kv l ih =>
            intro h
            obtain ⟨i, hi, e⟩ := List.getElem_of_mem (h kv List.mem_cons_self)
            have hk : k1[i]? = some (kv.1, kv.2) := by rw [List.getElem?_eq_getElem hi, e]
            obtain ⟨z, x, t, h1, hz, hv, hb, hx⟩ := bd_get d1 g1 hk
            refine .cons ?_ (ih fun kv hm => h kv (List.mem_cons_of_mem _ hm))
            show Dp K H' ((valV k1 kv.1).getD .non) (.tuple [.str (ndB bd (keyS kv.1)), .int (szB bd (keyS kv.1)), .int (bnB bd (keyS kv.1))])
            rw [hv, hz]
            have e1 : ndB bd z = t.1 := by unfold ndB; rw [hb]
            have e2 : szB bd z = t.2.1 := by unfold szB; rw [hb]
            have e3 : bnB bd z = t.2.2 := by unfold bnB; rw [hb]
            rw [e1, e2, e3]
            exact .tup (sqt (hs _ _ hx)) (.cons (.str _) (.cons (.int _) (.cons (.int _) .nil)))
        exact go k1 fun _ h => h
      refine ⟨_, rfl, D, rfl, ⟨_, sql hl⟩, fun D2 hD2 => ?_⟩
      refine lcd (K := K) ks (fun s => .tuple [.str (ndB bd s), .int (szB bd s), .int (bnB bd s)]) (fun s => if (decide (V.str (ndB bd s) = V.str nd) && decide (V.int (bnB bd s) = V.int bn)) = true then some (.tuple [.str (ndB bd s), .int (szB bd s), .int (bnB bd s)]) else none) hD2 (sql hl) hdp (by show (k1.map _).length ≤ _; rw [List.length_map]; omega) ?_ ?_
      · intro x z G hz s2 _ hdp J j1 j2
        obtain ⟨p2, v0, v1, v2, rfl, ht, ⟨⟩, ⟨⟩, ⟨⟩⟩ := dp_t3 hdp
        have ht := sqt_same s2 ht
        refine ⟨rfl, _, rfl, p2, _, 0, _, rfl, rfl, ht, atI_nat (j := 0) rfl, _, rfl, rfl, _, rfl, ifd (fun h1 => ?_) (fun h1 => ifbf rfl (j1 _ (Same.refl _) (if_neg (by simp [h1]))))⟩
        refine ⟨_, rfl, p2, _, 2, _, rfl, rfl, ht, atI_nat (j := 2) rfl, _, rfl, rfl, _, rfl, ifd (fun h2 => ?_) (fun h2 => j1 _ (Same.refl _) (if_neg (by simp [h2])))⟩
        exact ⟨_, rfl, j2 _ _ G (Same.refl _) (fun G'' s3 _ => dp_same s3 _ hdp) (if_pos (by simp [h1, h2]))⟩
      · intro H2 zs s2 e2 h2
        rw [fm_if] at h2
        have hz := dpa_len h2
        rw [List.length_map] at hz
        refine ⟨D2, zs, rfl, .inl (sql e2), ?_⟩
        rw [hz]
        refine c ks H2 hks (fun s => ?_) (hs.trans s2)
        rw [hki]
        rcases g1 s with g | ⟨x, t, h1, h2, _⟩
        · rw [g.1, g.2]; rfl
        · rw [h1, h2]; rfl
end
/-- what is no list and no tuple -/
def NoSeq (H : Hp) (L : List Addr) : Prop := ∀ x ∈ L, ∀ u, Rd H x u → (∀ xs, u ≠ .lst xs) ∧ ∀ xs, u ≠ .tup xs
theorem sql_fr {K : PySem.W.Frag} {L : List Addr} {H H' : Hp} {a : Addr} {xs : List V} (n : NoSeq H L) (f : Fr L H H') (h : SqL K H a xs) : SqL K H' a xs := by
  rcases h with (h | ⟨o, h⟩) | h
  · exact .inl (.inl (f _ _ h fun z => (n a z _ (.inl h)).1 xs rfl))
  · exact .inl (.inr ⟨o, f _ _ h fun z => (n a z _ (.inr ⟨o, h⟩)).1 xs rfl⟩)
  · exact .inr h
theorem sqt_fr {K : PySem.W.Frag} {L : List Addr} {H H' : Hp} {a : Addr} {xs : List V} (n : NoSeq H L) (f : Fr L H H') (h : SqT K H a xs) : SqT K H' a xs := by
  rcases h with (h | ⟨o, h⟩) | h
  · exact .inl (.inl (f _ _ h fun z => (n a z _ (.inl h)).2 xs rfl))
  · exact .inl (.inr ⟨o, f _ _ h fun z => (n a z _ (.inr ⟨o, h⟩)).2 xs rfl⟩)
  · exact .inr h
mutual
theorem dp_fr {K : PySem.W.Frag} {L : List Addr} {H H' : Hp} (n : NoSeq H L) (f : Fr L H H') : ∀ (d : PyData) {v : V}, Dp K H v d → Dp K H' v d
  | _, _, .non => .non
  | _, _, .bl b => .bl b
  | _, _, .int i => .int i
  | _, _, .str x => .str x
  | .list ds, _, .lst h a => .lst (sql_fr n f h) (dpa_fr n f ds a)
  | .tuple ds, _, .tup h a => .tup (sqt_fr n f h) (dpa_fr n f ds a)
theorem dpa_fr {K : PySem.W.Frag} {L : List Addr} {H H' : Hp} (n : NoSeq H L) (f : Fr L H H') : ∀ (ds : List PyData) {vs : List V}, DpAll K H vs ds → DpAll K H' vs ds
  | [], _, .nil => .nil
  | d :: ds, _, .cons h a => .cons (dp_fr n f d h) (dpa_fr n f ds a)
end
structure R71 where
  nm : Str
  nd : Str
  sz : Int
  bn : Int
  rv : Int
def R71.d (r : R71) : PyData := .tuple [.str r.nm, .str r.nd, .int r.sz, .int r.bn, .int r.rv]
structure Rep (rs : List R71) (bd : BD) (rv : RV) : Prop where
  nod : (rs.map (·.nm)).Nodup
  inU : ∀ r ∈ rs, r.nm ∈ U4
  get : ∀ r ∈ rs, bd r.nm = some (r.nd, r.sz, r.bn) ∧ rv r.nm = (if r.rv = 0 then none else some r.rv)
  all : ∀ s, (bd s).isSome = true → s ∈ rs.map (·.nm)
  rev : ∀ s, (rv s).isSome = true → (bd s).isSome = true
theorem rep_nil : Rep [] (fun _ => none) (fun _ => none) := ⟨List.nodup_nil, (fun _ h => by cases h), (fun _ h => by cases h), (fun _ h => by cases h), (fun _ h => by cases h)⟩
theorem rep_len {rs : List R71} {bd : BD} {rv : RV} (h : Rep rs bd rv) : rs.length ≤ 4 := by
  have := nd_len h.nod (U := U4) (fun x hx => by
    obtain ⟨r, hr, rfl⟩ := List.mem_map.mp hx
    exact h.inU r hr)
  rw [List.length_map] at this
  have u : U4.length ≤ 4 := by decide +kernel
  omega
theorem rep_mem {rs : List R71} {bd : BD} {rv : RV} (h : Rep rs bd rv) (s : Str) : s ∈ rs.map (·.nm) ↔ (bd s).isSome = true := by
  refine ⟨fun hs => ?_, h.all s⟩
  obtain ⟨r, hr, rfl⟩ := List.mem_map.mp hs
  rw [(h.get r hr).1]
  rfl
theorem rep_filter {rs : List R71} {bd : BD} {rv : RV} (h : Rep rs bd rv) (p : R71 → Bool) (bd' : BD) (rv' : RV) (h1 : ∀ r ∈ rs, p r = true → bd' r.nm = bd r.nm ∧ rv' r.nm = rv r.nm) (h2 : ∀ s, (bd' s).isSome = true → ∃ r ∈ rs, r.nm = s ∧ p r = true) (h3 : ∀ s, (rv' s).isSome = true → (bd' s).isSome = true) : Rep (rs.filter p) bd' rv' := by
  refine ⟨((List.filter_sublist (l := rs)).map (·.nm)).nodup h.nod, fun r hr => h.inU r (List.mem_filter.mp hr).1, fun r hr => ?_, fun s hs => ?_, h3⟩
  · obtain ⟨g1, g2⟩ := List.mem_filter.mp hr
    rw [(h1 r g1 g2).1, (h1 r g1 g2).2]
    exact h.get r g1
  · obtain ⟨r, g1, rfl, g2⟩ := h2 s hs
    exact List.mem_map.mpr ⟨r, List.mem_filter.mpr ⟨g1, g2⟩, rfl⟩
def neq (k : Str) (r : R71) : Bool := !decide (V.str r.nm = V.str k)
theorem neq_iff {k : Str} {r : R71} : neq k r = true ↔ r.nm ≠ k := by unfold neq; simp
theorem rep_drop {rs : List R71} {bd : BD} {rv : RV} (h : Rep rs bd rv) (k : Str) : Rep (rs.filter (neq k)) (unsF bd k) (unsF rv k) := by
  refine rep_filter h _ _ _ (fun r hr hp => ?_) (fun s hs => ?_) (fun s hs => ?_)
  · rw [neq_iff] at hp
    rw [unsF_ne hp, unsF_ne hp]
    exact ⟨rfl, rfl⟩
  · by_cases e : s = k
    · rw [e, unsF_same] at hs; cases hs
    · rw [unsF_ne e] at hs
      obtain ⟨r, hr, rfl⟩ := List.mem_map.mp (h.all s hs)
      exact ⟨r, hr, rfl, neq_iff.mpr e⟩
  · by_cases e : s = k
    · rw [e, unsF_same] at hs; cases hs
    · rw [unsF_ne e] at hs ⊢
      exact h.rev s hs
theorem rep_add {rs : List R71} {bd : BD} {rv : RV} (h : Rep rs bd rv) {k nd : Str} {sz bn : Int} (hk : k ∈ U4) : Rep (rs.filter (neq k) ++ [⟨k, nd, sz, bn, 0⟩]) (setF (unsF bd k) k (nd, sz, bn)) (unsF rv k) := by
  have g := rep_drop h k
  have hne : ∀ r ∈ rs.filter (neq k), r.nm ≠ k := fun r hr => neq_iff.mp (List.mem_filter.mp hr).2
  refine ⟨?_, fun r hr => ?_, fun r hr => ?_, fun s hs => ?_, fun s hs => ?_⟩
  · rw [List.map_append]
    refine List.nodup_append.mpr ⟨g.nod, by simp, fun x hx y hy z => ?_⟩
    obtain ⟨r, hr, rfl⟩ := List.mem_map.mp hx
    simp only [List.map_cons, List.map_nil, List.mem_cons, List.not_mem_nil, or_false] at hy
    exact hne r hr (z.trans hy)
  · rcases List.mem_append.mp hr with hr | hr
    · exact g.inU r hr
    · rw [List.mem_singleton] at hr; rw [hr]; exact hk
  · rcases List.mem_append.mp hr with hr | hr
    · rw [setF_ne (hne r hr)]
      exact g.get r hr
    · rw [List.mem_singleton] at hr
      rw [hr, setF_same, unsF_same]
      exact ⟨rfl, rfl⟩
  · rw [List.map_append]
    by_cases e : s = k
    · exact List.mem_append.mpr (.inr (by simp [e]))
    · rw [setF_ne e] at hs
      exact List.mem_append.mpr (.inl (g.all s hs))
  · by_cases e : s = k
    · rw [e, unsF_same] at hs; cases hs
    · rw [setF_ne e]
      exact g.rev s hs
def upR (k : Str) (v : Int) (r : R71) : R71 := if decide (V.str r.nm = V.str k) = true then { r with rv := v } else r
theorem upR_nm (k : Str) (v : Int) (r : R71) : (upR k v r).nm = r.nm := by unfold upR; split <;> rfl
theorem rep_done {rs : List R71} {bd : BD} {rv : RV} (h : Rep rs bd rv) {k : Str} {v : Int} (hv : 1 ≤ v) : Rep (rs.map (upR k v)) bd (if (bd k).isSome = true then setF rv k v else rv) := by
  have hm : (rs.map (upR k v)).map (·.nm) = rs.map (·.nm) := by
    rw [List.map_map]
    exact List.map_congr_left fun r _ => upR_nm k v r
  refine ⟨by rw [hm]; exact h.nod, fun r hr => ?_, fun r hr => ?_, fun s hs => by rw [hm]; exact h.all s hs, fun s hs => ?_⟩
  · obtain ⟨r, hm0, rfl⟩ := List.mem_map.mp hr
    rw [upR_nm]
    exact h.inU r hm0
  · obtain ⟨r, hm0, rfl⟩ := List.mem_map.mp hr
    have g := h.get r hm0
    by_cases e : r.nm = k
    · have hb : (bd k).isSome = true := by rw [← e, g.1]; rfl
      have eu : upR k v r = { r with rv := v } := by unfold upR; rw [if_pos (decide_eq_true (by rw [e]))]
      rw [eu, if_pos hb]
      refine ⟨g.1, ?_⟩
      show setF rv k v r.nm = _
      rw [e, setF_same, if_neg (by show ¬ v = 0; omega)]
    · have eu : upR k v r = r := by unfold upR; rw [if_neg (by simp [e])]
      rw [eu]
      refine ⟨g.1, ?_⟩
      split
      · rw [setF_ne e]; exact g.2
      · exact g.2
  · split at hs
    · next hb =>
      by_cases e : s = k
      · rw [e]; exact hb
      · rw [setF_ne e] at hs; exact h.rev s hs
    · exact h.rev s hs
def keepR (v : Int) (r : R71) : Bool := decide (V.int r.rv = V.int 0) || decide (v < r.rv)
theorem rep_settle {rs : List R71} {bd : BD} {rv : RV} (h : Rep rs bd rv) (v : Int) : Rep (rs.filter (keepR v)) (setB bd rv v) (setR rv v) := by
  have hk : ∀ r ∈ rs, keepR v r = !hitR rv v r.nm := fun r hr => by
    unfold keepR hitR
    rw [(h.get r hr).2]
    by_cases e : r.rv = 0
    · rw [if_pos e]; simp [e]
    · rw [if_neg e]
      rw [Bool.eq_iff_iff]
      simp [e]
  refine rep_filter h _ _ _ (fun r hr hp => ?_) (fun s hs => ?_) (fun s hs => ?_)
  · rw [hk r hr] at hp
    simp only [Bool.not_eq_true'] at hp
    unfold setB setR
    rw [hp]
    exact ⟨rfl, rfl⟩
  · unfold setB at hs
    by_cases e : hitR rv v s = true
    · rw [if_pos e] at hs; cases hs
    · rw [if_neg e] at hs
      obtain ⟨r, hr, rfl⟩ := List.mem_map.mp (h.all s hs)
      exact ⟨r, hr, rfl, by rw [hk r hr]; simpa using e⟩
  · unfold setR at hs
    unfold setB
    by_cases e : hitR rv v s = true
    · rw [if_pos e] at hs; cases hs
    · rw [if_neg e] at hs ⊢
      exact h.rev s hs
theorem AT.noseq {C : Addr} {H : Hp} {a : AP} {bd : BD} {rv : RV} (h : AT C H a bd rv) : NoSeq H a.all := by
  obtain ⟨⟨dx, ob⟩, ⟨k1, f, e1, _⟩, ⟨k2, e2, _⟩, _⟩ := h
  intro x hx u hu
  have one : ∀ o, H x = some o → (∀ xs, o ≠ .lst xs) → (∀ xs, o ≠ .tup xs) → (∀ w o', o ≠ .frz w o') → (∀ xs, u ≠ .lst xs) ∧ ∀ xs, u ≠ .tup xs := fun o ho h1 h2 h3 => by
    rcases hu with hu | ⟨w, hu⟩
    · rw [ho] at hu; cases hu; exact ⟨h1, h2⟩
    · rw [ho] at hu; cases hu; exact absurd rfl (h3 _ _)
  simp only [AP.all, List.mem_cons, List.not_mem_nil, or_false] at hx
  rcases hx with rfl | rfl | rfl
  · exact one _ ob (fun _ z => by cases z) (fun _ z => by cases z) (fun _ _ z => by cases z)
  · exact one _ e1 (fun _ z => by cases z) (fun _ z => by cases z) (fun _ _ z => by cases z)
  · exact one _ e2 (fun _ z => by cases z) (fun _ z => by cases z) (fun _ _ z => by cases z)

def sp_ladd (K : PySem.W.Frag) : Sp := fun vs H Q _ => ∃ (l r : Addr) (xs : List V) (rs : List R71) (x : R71), vs = [.ref l, .ref r] ∧ SqL K H l xs ∧ DpAll K H xs (rs.map R71.d) ∧ rs.length ≤ 100 ∧ Dp K H (.ref r) x.d ∧
  ∀ p H' ys, H p = none → Same H H' → H' p = some (.lst ys) → DpAll K H' ys ((rs.filter (neq x.nm) ++ [x]).map R71.d) → Q (.ref p) H'
def sp_ldeed (K : PySem.W.Frag) (C : Addr) : Sp := fun vs H Q _ => ∃ (a : AP) (l dg : Addr) (xs : List V) (bd : BD) (rv : RV) (rs : List R71) (d0 d1 d2 d3 d4 d5 : Int), vs = [.ref a.p, .ref l, .ref dg] ∧ AT C H a bd rv ∧ H l = some (.lst xs) ∧ DpAll K H xs (rs.map R71.d) ∧ Rep rs bd rv ∧
  H dg = some (.lst ([d0, d1, d2, d3, d4, d5].map V.int)) ∧ (0 ≤ d1 ∧ d1 < 4) ∧ (0 ≤ d2 ∧ d2 < 3) ∧ (0 ≤ d5 ∧ d5 < 12) ∧
  ∀ p H' ys bd' rv' rs', AT C H' a bd' rv' → Rep rs' bd' rv' → H' p = some (.lst ys) → DpAll K H' ys (rs'.map R71.d) → Fr a.all H H' → Q (.ref p) H'
def sp_lagree (K : PySem.W.Frag) (C : Addr) : Sp := fun vs H Q _ => ∃ (a : AP) (l : Addr) (xs : List V) (bd : BD) (rv : RV) (rs : List R71), vs = [.ref a.p, .ref l] ∧ AT C H a bd rv ∧ H l = some (.lst xs) ∧ DpAll K H xs (rs.map R71.d) ∧ Rep rs bd rv ∧ ∀ H', Same H H' → Q (.bl true) H'
def sp_law (K : PySem.W.Frag) : Sp := fun vs H Q _ => ∃ (a : Addr) (ns : List Int), vs = [.ref a] ∧ SqL K H a (ns.map V.int) ∧ ns.length ≤ 63 ∧ ∀ H', Q (.bl true) H'
theorem u4_in {zs : List Str} (h : zs = U4) {z : Str} (hz : z ∈ zs) : z ∈ U4 := by rw [← h]; exact hz
section
variable {P : Program} {w : World} {K : PySem.W.Frag} {mg : Str → Option Value} {base : Heap}
theorem ok__law_add (T : TX K mg) : FnOk P w K mg base CX0 1 T.a__law_add T.d__law_add ["rows", "row"] (sp_ladd K) := by
  refine T.F__law_add.ok sc__law_add (fun vs H Q E h => ?_) (fun cdv A outer s H vs Q E hr h => ?_)
  · obtain ⟨l, r, xs, rs, x, rfl, _⟩ := h
    rfl
  · obtain ⟨l, r, xs, rs, x, rfl, hL, hx, hl, hr0, c⟩ := h
    refine ⟨_, (pss_one (ps_ret (pe_op op_cat (pe_lc (own := [("old", 2)]) (g := gName 2)  (by rfl) sc__law_add.nd (pi_list (pv 0)) (blkOk_by (own := [("old", 2)]) (N := ["rows", "row", "old"]) (sc := defScope s__law_add) (by decide +kernel)) (fun _ _ _ _ _ => pg_name (i := 2) sc__law_add.nd rfl (Or.inl rfl)) (fun _ _ _ _ _ => pts_one (pt_cmpR op_ne (pe_ix (ixK_tup (K := K) rfl) (pv 2) pe_int (fun _ _ => rfl)) (pe_ix (ixK_tup (K := K) rfl) (pv 1) pe_int (fun _ _ => rfl)) (nomark _))) (fun _ _ _ _ _ => (pv 2))) (pe_lst (pa_cons (pv 1) pa_nil))))), ?_⟩
    obtain ⟨pr, w0, w1, w2, w3, w4, epr, hpr, ⟨⟩, ⟨⟩, ⟨⟩, ⟨⟩, ⟨⟩⟩ := dp_t5 hr0
    cases epr
    refine ⟨_, rfl, l, rfl, ⟨_, hL⟩, fun D hD => ?_⟩
    refine lcd (K := K) rs R71.d (fun e => if neq x.nm e = true then some e.d else none) hD hL hx (by omega) ?_ ?_
    · intro v e G he s1 _ hdp J j1 j2
      obtain ⟨p, v0, v1, v2, v3, v4, rfl, ht, ⟨⟩, ⟨⟩, ⟨⟩, ⟨⟩, ⟨⟩⟩ := dp_t5 hdp
      have ht := sqt_same s1 ht
      refine ⟨rfl, _, rfl, p, _, 0, _, rfl, rfl, ht, atI_nat (j := 0) rfl, _, rfl, r, _, 0, _, rfl, rfl, sqt_same s1 hpr, atI_nat (j := 0) rfl, rfl, _, rfl, ifn (fun h => ?_) (fun h => ?_)⟩
      · exact ⟨_, rfl, j2 _ _ G (Same.refl _) (fun G'' s3 _ => dp_same s3 _ hdp) (if_pos (neq_iff.mpr fun z => h (by rw [z])))⟩
      · exact j1 _ (Same.refl _) (if_neg fun z => neq_iff.mp z (V.str.inj h))
    · intro H1 ys s1 e1 h1
      rw [fm_if] at h1
      refine ⟨_, rfl, (by show 1 ≤ sizeLine; decide), fun t ht => ?_⟩
      have s2 := same_upd (o := .lst [.ref r]) ht
      have hyl := dpa_len h1
      rw [List.length_map] at hyl
      have hfl : (rs.filter (neq x.nm)).length ≤ rs.length := List.length_filter_le _ _
      refine ⟨D, t, ys, [.ref r], rfl, rfl, s2 _ _ e1, upd_same, sz (by simp only [List.length_cons, List.length_nil]; omega), fun p hp => ?_⟩
      have s3 := same_upd (o := .lst (ys ++ [.ref r])) hp
      refine c p _ (ys ++ [.ref r]) ((s1.trans s2).free hp) ((s1.trans s2).trans s3) upd_same ?_
      rw [List.map_append]
      exact dpa_app (dpa_same (s2.trans s3) _ h1) (.cons (dp_same ((s1.trans s2).trans s3) _ hr0) .nil)
theorem ok__law_deed (T : TX K mg) : FnOk P w K mg base CX0 3 T.a__law_deed T.d__law_deed ["assumed", "rows", "digits"] (sp_ldeed K T.a_Assumed) := by
  refine T.F__law_deed.ok sc__law_deed (fun vs H Q E h => ?_) (fun cdv A outer s H vs Q E hr h => ?_)
  · obtain ⟨a, l, dg, xs, bd, rv, rs, d0, d1, d2, d3, d4, d5, rfl, _⟩ := h
    rfl
  · obtain ⟨a, l, dg, xs, bd, rv, rs, d0, d1, d2, d3, d4, d5, rfl, hA, hl, hx, hR, hd, b1, b2, b5, c⟩ := h
    refine ⟨_, (pss_cons (ps_set (i := 3) sc__law_deed.nd rfl (Or.inl rfl) (pe_lst (pa_cons pe_str (pa_cons pe_str (pa_cons pe_str (pa_cons pe_str pa_nil))))))
      (pss_cons (ps_set (i := 4) sc__law_deed.nd rfl (Or.inl rfl) (pe_lst (pa_cons pe_str (pa_cons pe_str (pa_cons pe_str pa_nil)))))
      (pss_cons (ps_set (i := 5) sc__law_deed.nd rfl (Or.inr rfl) (pe_ix ix_list (pv 3) (pe_ix ix_list (pv 2) pe_int (fun _ _ => rfl)) (fun _ _ => rfl)))
      (pss_cons (ps_if (pt_cmpR op_lt (pe_ix ix_list (pv 2) pe_int (fun _ _ => rfl)) pe_int (nomark _)) (pss_cons (ps_expr (pe_meth (pv 0) T.K_Assumed T.m_Assumed_add (ok_Assumed_add T) (hr.mono (by decide)) T.b_Assumed_add .nil pass0 (pa_cons (pv 5) (pa_cons (pe_ix ix_list (pv 4) (pe_ix ix_list (pv 2) pe_int (fun _ _ => rfl)) (fun _ _ => rfl)) (pa_cons (pe_ix ix_list (pv 2) pe_int (fun _ _ => rfl)) (pa_cons (pe_op op_add pe_int (pe_ix ix_list (pv 2) pe_int (fun _ _ => rfl))) pa_nil))))))
        (pss_one (ps_ret (pe_call (ok__law_add T) (hr.mono (by decide)) (by rfl) T.g__law_add T.F__law_add.kp T.b__law_add .nil pass0 (pa_cons (pv 1) (pa_cons (pe_tup (pa_cons (pv 5) (pa_cons (pe_ix ix_list (pv 4) (pe_ix ix_list (pv 2) pe_int (fun _ _ => rfl)) (fun _ _ => rfl)) (pa_cons (pe_ix ix_list (pv 2) pe_int (fun _ _ => rfl)) (pa_cons (pe_op op_add pe_int (pe_ix ix_list (pv 2) pe_int (fun _ _ => rfl))) (pa_cons pe_int pa_nil)))))) pa_nil)))))) pss_nil)
      (pss_cons (ps_if (pt_cmpR op_lt (pe_ix ix_list (pv 2) pe_int (fun _ _ => rfl)) pe_int (nomark _)) (pss_cons (ps_expr (pe_meth (pv 0) T.K_Assumed T.m_Assumed_done (ok_Assumed_done T) (hr.mono (by decide)) T.b_Assumed_done .nil pass0 (pa_cons (pv 5) (pa_cons (pe_op op_add pe_int (pe_ix ix_list (pv 2) pe_int (fun _ _ => rfl))) pa_nil))))
        (pss_one (ps_ret (pe_lc (own := [("row", 6)]) (g := gName 6) (tt := tYes) (by rfl) sc__law_deed.nd (pi_list (pv 1)) (blkOk_by (own := [("row", 6)]) (N := ["assumed", "rows", "digits", "tasks", "nodes", "task", "row"]) (sc := defScope s__law_deed) (by decide +kernel)) (fun _ _ _ _ _ => pg_name (i := 6) sc__law_deed.nd rfl (Or.inl rfl)) (fun _ _ _ _ _ => pts_nil) (fun _ _ _ _ _ => (pe_ifExp (pt_cmpR op_eq (pe_ix (ixK_tup (K := K) rfl) (pv 6) pe_int (fun _ _ => rfl)) (pv 5) (nomark _)) (pe_op (opK_catA (K := K) rfl) (pe_slice (slK_tup (K := K) rfl) (pv 6) po_none (po_some pe_int)) (pe_tup (pa_cons (pe_op op_add pe_int (pe_ix (ixK_list (K := K) rfl) (pv 2) pe_int (fun _ _ => rfl))) pa_nil))) (pv 6))))))) pss_nil)
      (pss_cons (ps_if (pt_cmpR op_eq (pe_ix ix_list (pv 2) pe_int (fun _ _ => rfl)) pe_int (nomark _)) (pss_cons (ps_expr (pe_meth (pv 0) T.K_Assumed T.m_Assumed_drop (ok_Assumed_drop T) (hr.mono (by decide)) T.b_Assumed_drop .nil pass0 (pa_cons (pv 5) pa_nil)))
        (pss_one (ps_ret (pe_lc (own := [("row", 6)]) (g := gName 6)  (by rfl) sc__law_deed.nd (pi_list (pv 1)) (blkOk_by (own := [("row", 6)]) (N := ["assumed", "rows", "digits", "tasks", "nodes", "task", "row"]) (sc := defScope s__law_deed) (by decide +kernel)) (fun _ _ _ _ _ => pg_name (i := 6) sc__law_deed.nd rfl (Or.inl rfl)) (fun _ _ _ _ _ => pts_one (pt_cmpR op_ne (pe_ix (ixK_tup (K := K) rfl) (pv 6) pe_int (fun _ _ => rfl)) (pv 5) (nomark _))) (fun _ _ _ _ _ => (pv 6)))))) pss_nil)
      (pss_cons (ps_expr (pe_meth (pv 0) T.K_Assumed T.m_Assumed_settle (ok_Assumed_settle T) (hr.mono (by decide)) T.b_Assumed_settle .nil pass0 (pa_cons (pe_op op_add pe_int (pe_ix ix_list (pv 2) pe_int (fun _ _ => rfl))) pa_nil)))
      (pss_one (ps_ret (pe_lc (own := [("row", 6)]) (g := gName 6)  (by rfl) sc__law_deed.nd (pi_list (pv 1)) (blkOk_by (own := [("row", 6)]) (N := ["assumed", "rows", "digits", "tasks", "nodes", "task", "row"]) (sc := defScope s__law_deed) (by decide +kernel)) (fun _ _ _ _ _ => pg_name (i := 6) sc__law_deed.nd rfl (Or.inl rfl)) (fun _ _ _ _ _ => pts_one (PW.pt (pw_or (pt_cmpR op_eq (pe_ix (ixK_tup (K := K) rfl) (pv 6) pe_int (fun _ _ => rfl)) pe_int (nomark _)) (pw_or1 (pt_cmpR op_gt (pe_ix (ixK_tup (K := K) rfl) (pv 6) pe_int (fun _ _ => rfl)) (pe_op op_add pe_int (pe_ix (ixK_list (K := K) rfl) (pv 2) pe_int (fun _ _ => rfl))) (nomark _)))))) (fun _ _ _ _ _ => (pv 6)))))))))))), ?_⟩
    have hrl := rep_len hR
    refine nrm7 rfl ?_
    refine ⟨(by show 4 ≤ sizeLine; decide), fun t1 ht1 => ?_⟩
    have s1 := same_upd (o := .lst (U4.map V.str)) ht1
    have e1 := upd_same (H := H) (a := t1) (o := .lst (U4.map V.str))
    refine gnm7 rfl ?_
    refine ⟨(by show 3 ≤ sizeLine; decide), fun t2 ht2 => ?_⟩
    have ht2 : (upd H t1 (.lst (U4.map V.str))) t2 = none := ht2
    have s2 := s1.trans (same_upd (o := .lst (([Str.ofString "w1", Str.ofString "w2", Str.ofString "w10"] : List Str).map V.str)) ht2)
    have e2 := upd_same (H := upd H t1 (.lst (U4.map V.str))) (a := t2) (o := .lst (([Str.ofString "w1", Str.ofString "w2", Str.ofString "w10"] : List Str).map V.str))
    have e1 := same_upd (o := .lst (([Str.ofString "w1", Str.ofString "w2", Str.ofString "w10"] : List Str).map V.str)) ht2 _ _ e1
    refine (show gName 4 (V.ref t2) _ (upd (upd H t1 (.lst (U4.map V.str))) t2 (.lst (([Str.ofString "w1", Str.ofString "w2", Str.ofString "w10"] : List Str).map V.str))) _ from ?_)
    generalize upd (upd H t1 (.lst (U4.map V.str))) t2 (.lst (([Str.ofString "w1", Str.ofString "w2", Str.ofString "w10"] : List Str).map V.str)) = H2 at s2 e1 e2
    have hA := hA.same s2
    have hl := s2 _ _ hl
    have hd := s2 _ _ hd
    have hx := dpa_same s2 _ hx
    have hfr : Fr a.all H H2 := Fr.of_same s2
    clear s1 ht1 ht2
    refine gnm7 rfl ?_
    obtain ⟨k, hk, hkat⟩ := at_strs (zs := U4) (i := d1) b1.1 (by show d1 < 4; omega)
    obtain ⟨nd, _, hndat⟩ := at_strs (zs := [Str.ofString "w1", Str.ofString "w2", Str.ofString "w10"]) (i := d2) b2.1 (by show d2 < 3; omega)
    refine ⟨_, rfl, _, rfl, dg, _, 1, _, rfl, rfl, sql hd, atI_nat (j := 1) rfl, t1, _, d1, .str k, rfl, rfl, sql e1, hkat, ?_⟩
    refine gnm7 rfl ?_
    obtain ⟨dx, ob⟩ := hA.ob
    have nq := hA.noseq
    have nn : ∀ {b : Addr} {xs : List V}, H2 b = some (.lst xs) → b ∉ a.all := fun {b xs} h z => (nq b z _ (.inl h)).1 xs rfl
    refine ⟨_, rfl, dg, _, 0, _, rfl, rfl, sql hd, atI_nat (j := 0) rfl, _, _, rfl, rfl, _, rfl, ifd (fun h0 => ?_) (fun h0 => ?_)⟩
    · -- add
      refine ⟨_, rfl, a.p, dx, _, rfl, ob, fl_Assumed_no_add, _, rfl, _, rfl, _, rfl, dg, _, 2, _, rfl, rfl, sql hd, atI_nat (j := 2) rfl, t2, _, d2, .str nd, rfl, rfl, sql e2, hndat, _, rfl, dg, _, 3, _, rfl, rfl, sql hd, atI_nat (j := 3) rfl, _, rfl, dg, _, 4, _, rfl, rfl, sql hd, atI_nat (j := 4) rfl, _, _, rfl, rfl, ?_⟩
      refine ⟨a, bd, rv, k, nd, d3, 5 + d4, rfl, hA, hk, fun H3 hA3 f3 => ?_⟩
      have hl3 := f3 _ _ hl (nn hl)
      have hd3 := f3 _ _ hd (nn hd)
      have e23 := f3 _ _ e2 (nn e2)
      have hx3 := dpa_fr nq f3 _ hx
      refine ⟨_, rfl, _, rfl, _, rfl, _, rfl, dg, _, 2, _, rfl, rfl, sql hd3, atI_nat (j := 2) rfl, t2, _, d2, .str nd, rfl, rfl, sql e23, hndat, _, rfl, dg, _, 3, _, rfl, rfl, sql hd3, atI_nat (j := 3) rfl, _, rfl, dg, _, 4, _, rfl, rfl, sql hd3, atI_nat (j := 4) rfl, _, _, rfl, rfl, (by show 5 ≤ sizeLine; decide), fun u hu => ?_⟩
      have s4 := same_upd (o := .tup [.str k, .str nd, .int d3, .int (5 + d4), .int 0]) hu
      refine ⟨l, u, xs, rs, ⟨k, nd, d3, 5 + d4, 0⟩, rfl, sql (s4 _ _ hl3), dpa_same s4 _ hx3, by omega, .tup (sqt upd_same) (.cons (.str _) (.cons (.str _) (.cons (.int _) (.cons (.int _) (.cons (.int _) .nil))))), fun p H5 ys hp s5 e5 h5 => ?_⟩
      exact c p H5 ys _ _ _ ((hA3.same s4).same s5) (rep_add hR hk) e5 h5 ((hfr.trans f3).trans (Fr.of_same (s4.trans s5)))
    refine ⟨_, rfl, dg, _, 0, _, rfl, rfl, sql hd, atI_nat (j := 0) rfl, _, _, rfl, rfl, _, rfl, ifd (fun h1 => ?_) (fun h1 => ?_)⟩
    · -- done
      refine ⟨_, rfl, a.p, dx, _, rfl, ob, fl_Assumed_no_done, _, rfl, _, rfl, dg, _, 5, _, rfl, rfl, sql hd, atI_nat (j := 5) rfl, _, _, rfl, rfl, ?_⟩
      refine ⟨a, bd, rv, k, 1 + d5, rfl, hA, hk, fun H3 hA3 f3 => ?_⟩
      have hl3 := f3 _ _ hl (nn hl)
      have hd3 := f3 _ _ hd (nn hd)
      have hx3 := dpa_fr nq f3 _ hx
      refine ⟨_, rfl, l, rfl, ⟨_, sql hl3⟩, fun D hD => ?_⟩
      refine lcd (K := K) rs R71.d (fun e => some (upR k (1 + d5) e).d) hD (sql hl3) hx3 (by omega) ?_ ?_
      · intro v e G he s4 ⟨lD, hGD⟩ hdp J j1 j2
        obtain ⟨p, v0, v1, v2, v3, v4, rfl, ht, ⟨⟩, ⟨⟩, ⟨⟩, ⟨⟩, ⟨⟩⟩ := dp_t5 hdp
        have ht := sqt_same s4 ht
        refine ⟨rfl, ?_⟩
        dsimp only [tYes]
        refine (if_pos rfl).mpr ?_
        refine ⟨_, rfl, p, _, 0, _, rfl, rfl, ht, atI_nat (j := 0) rfl, _, rfl, rfl, _, rfl, ifd (fun h => ?_) (fun h => ?_)⟩
        · refine ⟨_, rfl, _, rfl, p, _, rfl, ht, (fun h => absurd (show (4 : Nat) = 5 from h.2) (by decide)), fun p1 hp1 => ?_⟩
          have s5 := same_upd (o := .tup (cutV [.str e.nm, .str e.nd, .int e.sz, .int e.bn, .int e.rv] none (some 4))) hp1
          have ht4 : SqT K (upd G p1 (.tup (cutV [.str e.nm, .str e.nd, .int e.sz, .int e.bn, .int e.rv] none (some 4)))) p1 [.str e.nm, .str e.nd, .int e.sz, .int e.bn] := sqt (by rw [upd_same]; rfl)
          have hd5 := s5 _ _ (s4 _ _ hd3)
          have hGD5 := s5 _ _ hGD
          refine (show _ from ?_)
          generalize upd G p1 (.tup (cutV [.str e.nm, .str e.nd, .int e.sz, .int e.bn, .int e.rv] none (some 4))) = G1 at s5 ht4 hd5 hGD5
          refine ⟨_, rfl, dg, _, 5, _, rfl, rfl, sql hd5, atI_nat (j := 5) rfl, _, _, rfl, rfl, (by show 1 ≤ sizeLine; decide), fun p2 hp2 => ?_⟩
          have s6 := same_upd (o := .tup [.int (1 + d5)]) hp2
          refine ⟨p1, p2, [.str e.nm, .str e.nd, .int e.sz, .int e.bn], [.int (1 + d5)], rfl, rfl, sqt_same s6 ht4, sqt upd_same, (by show 5 ≤ sizeLine; decide), (fun h => by cases h), (fun _ h => by cases h), fun _ _ p3 hp3 => ?_⟩
          have n3D : p3 ≠ D := fun z => by rw [z, s6 _ _ hGD5] at hp3; cases hp3
          have eu : upR k (1 + d5) e = { e with rv := 1 + d5 } := by unfold upR; rw [if_pos (decide_eq_true h)]
          refine j2 (.ref p3) _ _ ((s5.trans s6).trans (same_upd hp3)) (fun G'' s7 o => ?_) (by rw [eu])
          exact .tup (sqt (o p3 _ n3D upd_same)) (.cons (.str _) (.cons (.str _) (.cons (.int _) (.cons (.int _) (.cons (.int _) .nil)))))
        · have eu : upR k (1 + d5) e = e := by unfold upR; rw [if_neg (by simpa using h)]
          exact ⟨_, rfl, j2 _ _ G (Same.refl _) (fun G'' s7 _ => dp_same s7 _ hdp) (by rw [eu])⟩
      · intro H4 ys s4 e4 h4
        rw [fm_some (fun e => (upR k (1 + d5) e).d)] at h4
        have : rs.map (fun e => (upR k (1 + d5) e).d) = (rs.map (upR k (1 + d5))).map R71.d := by rw [List.map_map]; rfl
        rw [this] at h4
        exact c D H4 ys _ _ _ (hA3.same s4) (rep_done hR (by omega)) e4 h4 ((hfr.trans f3).trans (Fr.of_same s4))
    refine ⟨_, rfl, dg, _, 0, _, rfl, rfl, sql hd, atI_nat (j := 0) rfl, rfl, _, rfl, ifd (fun h2 => ?_) (fun h2 => ?_)⟩
    · -- drop
      refine ⟨_, rfl, a.p, dx, _, rfl, ob, fl_Assumed_no_drop, _, rfl, a, bd, rv, k, rfl, hA, fun H3 hA3 f3 => ?_⟩
      have hl3 := f3 _ _ hl (nn hl)
      have hx3 := dpa_fr nq f3 _ hx
      refine ⟨_, rfl, l, rfl, ⟨_, sql hl3⟩, fun D hD => ?_⟩
      refine lcd (K := K) rs R71.d (fun e => if neq k e = true then some e.d else none) hD (sql hl3) hx3 (by omega) ?_ ?_
      · intro v e G he s4 _ hdp J j1 j2
        obtain ⟨p, v0, v1, v2, v3, v4, rfl, ht, ⟨⟩, ⟨⟩, ⟨⟩, ⟨⟩, ⟨⟩⟩ := dp_t5 hdp
        have ht := sqt_same s4 ht
        refine ⟨rfl, _, rfl, p, _, 0, _, rfl, rfl, ht, atI_nat (j := 0) rfl, _, rfl, rfl, _, rfl, ifn (fun h => ?_) (fun h => ?_)⟩
        · exact ⟨_, rfl, j2 _ _ G (Same.refl _) (fun G'' s7 _ => dp_same s7 _ hdp) (if_pos (neq_iff.mpr fun z => h (by rw [z])))⟩
        · exact j1 _ (Same.refl _) (if_neg fun z => neq_iff.mp z (V.str.inj h))
      · intro H4 ys s4 e4 h4
        rw [fm_if] at h4
        exact c D H4 ys _ _ _ (hA3.same s4) (rep_drop hR k) e4 h4 ((hfr.trans f3).trans (Fr.of_same s4))
    · -- settle
      refine ⟨_, rfl, a.p, dx, _, rfl, ob, fl_Assumed_no_settle, _, rfl, dg, _, 5, _, rfl, rfl, sql hd, atI_nat (j := 5) rfl, _, _, rfl, rfl, ?_⟩
      refine ⟨a, bd, rv, 1 + d5, rfl, hA, hR.rev, fun H3 hA3 f3 => ?_⟩
      have hl3 := f3 _ _ hl (nn hl)
      have hd3 := f3 _ _ hd (nn hd)
      have hx3 := dpa_fr nq f3 _ hx
      refine ⟨_, rfl, l, rfl, ⟨_, sql hl3⟩, fun D hD => ?_⟩
      refine lcd (K := K) rs R71.d (fun e => if keepR (1 + d5) e = true then some e.d else none) hD (sql hl3) hx3 (by omega) ?_ ?_
      · intro v e G he s4 _ hdp J j1 j2
        obtain ⟨p, v0, v1, v2, v3, v4, rfl, ht, ⟨⟩, ⟨⟩, ⟨⟩, ⟨⟩, ⟨⟩⟩ := dp_t5 hdp
        have ht := sqt_same s4 ht
        refine ⟨rfl, _, rfl, p, _, 4, _, rfl, rfl, ht, atI_nat (j := 4) rfl, rfl, _, rfl, ifd (fun h => ?_) (fun h => ?_)⟩
        · refine ifbt rfl ?_
          exact ⟨_, rfl, j2 _ _ G (Same.refl _) (fun G'' s7 _ => dp_same s7 _ hdp) (if_pos (by simp [keepR, h]))⟩
        · refine ⟨_, rfl, p, _, 4, _, rfl, rfl, ht, atI_nat (j := 4) rfl, _, rfl, dg, _, 5, _, rfl, rfl, sql (s4 _ _ hd3), atI_nat (j := 5) rfl, _, _, rfl, rfl, _, _, rfl, rfl, _, rfl, ifd (fun h' => ?_) (fun h' => ?_)⟩
          · exact ⟨_, rfl, j2 _ _ G (Same.refl _) (fun G'' s7 _ => dp_same s7 _ hdp) (if_pos (by simp [keepR, h']))⟩
          · exact j1 _ (Same.refl _) (if_neg (by simp [keepR, h, h']))
      · intro H4 ys s4 e4 h4
        rw [fm_if] at h4
        exact c D H4 ys _ _ _ (hA3.same s4) (rep_settle hR (1 + d5)) e4 h4 ((hfr.trans f3).trans (Fr.of_same s4))
end
theorem dps_make {K : PySem.W.Frag} {H : Hp} : ∀ ys : List Str, DpAll K H (ys.map V.str) (ys.map PyData.str)
  | [] => .nil
  | y :: ys => .cons (.str y) (dps_make ys)
theorem dps_back {K : PySem.W.Frag} {H : Hp} : ∀ {ys : List Str} {vs : List V}, DpAll K H vs (ys.map PyData.str) → vs = ys.map V.str
  | [], _, h => dpa_nil h
  | y :: ys, _, h => by
    obtain ⟨ws, rfl, h2⟩ := dpa_str h
    rw [dps_back h2]
    rfl
theorem dpi_back {K : PySem.W.Frag} {H : Hp} : ∀ {ys : List Int} {vs : List V}, DpAll K H vs (ys.map PyData.int) → vs = ys.map V.int
  | [], _, h => dpa_nil h
  | y :: ys, _, h => by
    obtain ⟨ws, rfl, h2⟩ := dpa_int h
    rw [dpi_back h2]
    rfl
theorem u4_ok : ∀ z ∈ U4, PyData.strOk z = true := by decide +kernel
theorem flat_u4 {ys : List Str} (h : ∀ y ∈ ys, y ∈ U4) : Flat 1 (.list (ys.map PyData.str)) := flat_list (n := 0) fun d hd => by
  obtain ⟨y, hy, rfl⟩ := List.mem_map.mp hd
  exact flat_str _ _ (u4_ok y (h y hy))
theorem ord_rep {rs : List R71} {bd : BD} {rv : RV} (h : Rep rs bd rv) {ys zs : List Str} (hy : Ord (fun s => (bd s).isSome) ys) (hp : zs.Perm (rs.map (·.nm))) (hs : sortedS zs = true) : zs = ys :=
  ord_uniq (f := fun s => (bd s).isSome) ⟨hp.nodup_iff.mpr h.nod, hs, fun s => by rw [hp.mem_iff]; exact rep_mem h s⟩ hy
theorem ord_u4 {rs : List R71} {bd : BD} {rv : RV} (h : Rep rs bd rv) {ys : List Str} (hy : Ord (fun s => (bd s).isSome) ys) : ∀ y ∈ ys, y ∈ U4 := fun y hm => by
  have := h.all y ((hy.2.2 y).mp hm)
  obtain ⟨r, hr, rfl⟩ := List.mem_map.mp this
  exact h.inU r hr
def eqN (k : Str) (r : R71) : Bool := decide (V.str r.nm = V.str k)
theorem one_len {k : Str} : ∀ {rs : List R71}, (rs.map (·.nm)).Nodup → (rs.filter (eqN k)).length = if k ∈ rs.map (·.nm) then 1 else 0
  | [], _ => rfl
  | r :: rs, h => by
    rw [List.map_cons] at h
    obtain ⟨n1, n2⟩ := List.nodup_cons.mp h
    have ih := one_len (k := k) n2
    by_cases e : r.nm = k
    · have hk : k ∉ rs.map (·.nm) := by rw [← e]; exact n1
      rw [if_neg hk] at ih
      rw [List.filter_cons_of_pos (by simp [eqN, e]), List.length_cons, ih, if_pos (by rw [List.map_cons, e]; exact List.mem_cons_self)]
    · rw [List.filter_cons_of_neg (by simp [eqN, e]), ih]
      have : (k ∈ (r :: rs).map (·.nm)) ↔ k ∈ rs.map (·.nm) := by
        rw [List.map_cons, List.mem_cons]
        exact ⟨fun h => h.resolve_left fun z => e z.symm, .inr⟩
      simp only [this]
theorem rep_perm {rs : List R71} {bd : BD} {rv : RV} (h : Rep rs bd rv) {ks : List Str} (n : ks.Nodup) (m : ∀ s, s ∈ ks ↔ (bd s).isSome = true) : ks.Perm (rs.map (·.nm)) :=
  nd_perm n h.nod fun s => by rw [m, rep_mem h]
def eqD (nd : Str) (r : R71) : Bool := decide (V.str r.nd = V.str nd)
theorem perm_sum {a b : List Int} (h : a.Perm b) : a.sum = b.sum := by
  induction h with
  | nil => rfl
  | cons x _ ih => rw [List.sum_cons, List.sum_cons, ih]
  | swap x y l => rw [List.sum_cons, List.sum_cons, List.sum_cons, List.sum_cons]; omega
  | trans _ _ i1 i2 => rw [i1, i2]
theorem size_eq {rs : List R71} {bd : BD} {rv : RV} (h : Rep rs bd rv) {ks : List Str} (n : ks.Nodup) (m : ∀ s, s ∈ ks ↔ (bd s).isSome = true) (nd : Str) :
    ((ks.filter fun s => decide (V.str (ndB bd s) = V.str nd)).map (szB bd)).sum = ((rs.filter (eqD nd)).map (·.sz)).sum := by
  have p := rep_perm h n m
  have q := perm_sum ((p.filter fun s => decide (V.str (ndB bd s) = V.str nd)).map (szB bd))
  rw [q, List.filter_map, List.map_map]
  have e1 : rs.filter ((fun s => decide (V.str (ndB bd s) = V.str nd)) ∘ fun r => r.nm) = rs.filter (eqD nd) := List.filter_congr fun r hr => by
    show decide (V.str (ndB bd r.nm) = V.str nd) = _
    unfold ndB
    rw [(h.get r hr).1]
    rfl
  rw [e1]
  congr 1
  refine List.map_congr_left fun r hr => ?_
  show szB bd r.nm = r.sz
  unfold szB
  rw [(h.get r (List.mem_filter.mp hr).1).1]
def eqDB (nd : Str) (bn : Int) (r : R71) : Bool := decide (V.str r.nd = V.str nd) && decide (V.int r.bn = V.int bn)
theorem count_eq {rs : List R71} {bd : BD} {rv : RV} (h : Rep rs bd rv) {ks : List Str} (n : ks.Nodup) (m : ∀ s, s ∈ ks ↔ (bd s).isSome = true) (nd : Str) (bn : Int) :
    (ks.filter fun s => decide (V.str (ndB bd s) = V.str nd) && decide (V.int (bnB bd s) = V.int bn)).length = (rs.filter (eqDB nd bn)).length := by
  have p := rep_perm h n m
  rw [(p.filter _).length_eq, List.filter_map, List.length_map]
  congr 1
  refine List.filter_congr fun r hr => ?_
  show (decide (V.str (ndB bd r.nm) = V.str nd) && decide (V.int (bnB bd r.nm) = V.int bn)) = _
  unfold ndB bnB
  rw [(h.get r hr).1]
  rfl
section
variable {P : Program} {w : World} {K : PySem.W.Frag} {mg : Str → Option Value} {base : Heap}
theorem ok__law_agrees (T : TX K mg) : FnOk P w K mg base CX0 2 T.a__law_agrees T.d__law_agrees ["assumed", "rows"] (sp_lagree K T.a_Assumed) := by
  refine T.F__law_agrees.ok sc__law_agrees (fun vs H Q E h => ?_) (fun cdv A outer s H vs Q E hr h => ?_)
  · obtain ⟨a, l, xs, bd, rv, rs, rfl, _⟩ := h
    rfl
  · obtain ⟨a, l, xs, bd, rv, rs, rfl, hA, hl, hx, hR, c⟩ := h
    refine ⟨_, (pss_cons (ps_set (i := 2) sc__law_agrees.nd rfl (Or.inl rfl) (pe_meth0 (pv 0) T.K_Assumed T.m_Assumed_names (ok_Assumed_names T) (hr.mono (by decide)) T.b_Assumed_names .nil pass0))
      (pss_cons (ps_if (pt_cmpR (op_neD hr.units) (pv 2) (pe_callB cr_sortedS (by rfl) T.n_sorted (by decide +kernel) (pa_cons (pe_lc (own := [("row", 8)]) (g := gName 8) (tt := tYes) (by rfl) sc__law_agrees.nd (pi_list (pv 1)) (blkOk_by (own := [("row", 8)]) (N := ["assumed", "rows", "names", "task", "due", "node", "born", "mine", "row"]) (sc := defScope s__law_agrees) (by decide +kernel)) (fun _ _ _ _ _ => pg_name (i := 8) sc__law_agrees.nd rfl (Or.inl rfl)) (fun _ _ _ _ _ => pts_nil) (fun _ _ _ _ _ => (pe_ix (ixK_tup (K := K) rfl) (pv 8) pe_int (fun _ _ => rfl)))) pa_nil)) (nomark _)) (pss_one (ps_ret pe_bl)) pss_nil)
      (pss_cons (ps_expr (pe_bm PySem.F.plainAttrs_list PySem.F.slot_list_append PySem.F.type_list_append mt_append (pv 2) (pa_cons pe_str pa_nil)))
      (pss_cons (ps_if (pt_cmpR (op_neD hr.units) (pe_meth0 (pv 0) T.K_Assumed T.m_Assumed_names (ok_Assumed_names T) (hr.mono (by decide)) T.b_Assumed_names .nil pass0) (pe_callB cr_sortedS (by rfl) T.n_sorted (by decide +kernel) (pa_cons (pe_lc (own := [("row", 8)]) (g := gName 8) (tt := tYes) (by rfl) sc__law_agrees.nd (pi_list (pv 1)) (blkOk_by (own := [("row", 8)]) (N := ["assumed", "rows", "names", "task", "due", "node", "born", "mine", "row"]) (sc := defScope s__law_agrees) (by decide +kernel)) (fun _ _ _ _ _ => pg_name (i := 8) sc__law_agrees.nd rfl (Or.inl rfl)) (fun _ _ _ _ _ => pts_nil) (fun _ _ _ _ _ => (pe_ix (ixK_tup (K := K) rfl) (pv 8) pe_int (fun _ _ => rfl)))) pa_nil)) (nomark _)) (pss_one (ps_ret pe_bl)) pss_nil)
      (pss_cons (ps_for PassesOwn.never rfl (pi_list (pe_lst (pa_cons pe_str (pa_cons pe_str (pa_cons pe_str (pa_cons pe_str (pa_cons pe_str pa_nil))))))) (pg_name (i := 3) sc__law_agrees.nd rfl (Or.inr rfl))
        (pss_cons (ps_set (i := 4) sc__law_agrees.nd rfl (Or.inl rfl) (pe_cmpR op_eq (pe_callB call_len_seq (by rfl) T.n_len PySem.boot_len (pa_cons (pe_lc (own := [("row", 8)]) (g := gName 8)  (by rfl) sc__law_agrees.nd (pi_list (pv 1)) (blkOk_by (own := [("row", 8)]) (N := ["assumed", "rows", "names", "task", "due", "node", "born", "mine", "row"]) (sc := defScope s__law_agrees) (by decide +kernel)) (fun _ _ _ _ _ => pg_name (i := 8) sc__law_agrees.nd rfl (Or.inl rfl)) (fun _ _ _ _ _ => pts_one (pt_cmpR op_eq (pe_ix (ixK_tup (K := K) rfl) (pv 8) pe_int (fun _ _ => rfl)) (pv 3) (nomark _))) (fun _ _ _ _ _ => (pv 8))) pa_nil)) pe_int (nomark _)))
        (pss_one (ps_if (pt_cmpR op_ne (pe_meth (pv 0) T.K_Assumed T.m_Assumed_has (ok_Assumed_has T) (hr.mono (by decide)) T.b_Assumed_has .nil pass0 (pa_cons (pv 3) pa_nil)) (pv 4) (nomark _)) (pss_one (ps_ret pe_bl)) pss_nil))))
      (pss_cons (ps_for PassesOwn.never rfl (pi_list (pe_lst (pa_cons pe_str (pa_cons pe_str (pa_cons pe_str (pa_cons pe_str pa_nil)))))) (pg_name (i := 5) sc__law_agrees.nd rfl (Or.inr rfl))
        (pss_cons (ps_if (pt_cmpR op_ne (pe_meth (pv 0) T.K_Assumed T.m_Assumed_size_on (ok_Assumed_size_on T) (hr.mono (by decide)) T.b_Assumed_size_on .nil pass0 (pa_cons (pv 5) pa_nil)) (pe_callB (cr_sum rfl) (by rfl) T.n_sum (by decide +kernel) (pa_cons (pe_lc (own := [("row", 8)]) (g := gName 8)  (by rfl) sc__law_agrees.nd (pi_list (pv 1)) (blkOk_by (own := [("row", 8)]) (N := ["assumed", "rows", "names", "task", "due", "node", "born", "mine", "row"]) (sc := defScope s__law_agrees) (by decide +kernel)) (fun _ _ _ _ _ => pg_name (i := 8) sc__law_agrees.nd rfl (Or.inl rfl)) (fun _ _ _ _ _ => pts_one (pt_cmpR op_eq (pe_ix (ixK_tup (K := K) rfl) (pv 8) pe_int (fun _ _ => rfl)) (pv 5) (nomark _))) (fun _ _ _ _ _ => (pe_ix (ixK_tup (K := K) rfl) (pv 8) pe_int (fun _ _ => rfl)))) pa_nil)) (nomark _)) (pss_one (ps_ret pe_bl)) pss_nil)
        (pss_one (ps_for PassesOwn.never rfl (pi_list (pe_lst (pa_cons pe_int (pa_cons pe_int (pa_cons pe_int pa_nil))))) (pg_name (i := 6) sc__law_agrees.nd rfl (Or.inr rfl))
          (pss_cons (ps_setLc (i := 7) (own := [("row", 8)]) (g := gName 8)  (by rfl) sc__law_agrees.nd rfl rfl (sw_true rfl rfl rfl (by decide +kernel)) (pi_list (pv 1)) (blkOk_by (own := [("row", 8)]) (N := ["assumed", "rows", "names", "task", "due", "node", "born", "mine", "row"]) (sc := defScope s__law_agrees) (by decide +kernel)) (fun _ _ _ _ _ => pg_name (i := 8) sc__law_agrees.nd rfl (Or.inl rfl)) (fun _ _ _ _ _ => pts_one (PW.pt (pw_and (pt_cmpR op_eq (pe_ix (ixK_tup (K := K) rfl) (pv 8) pe_int (fun _ _ => rfl)) (pv 5) (nomark _)) (pw_and1 (pt_cmpR op_eq (pe_ix (ixK_tup (K := K) rfl) (pv 8) pe_int (fun _ _ => rfl)) (pv 6) (nomark _)))))) (fun _ _ _ _ _ => (pv 8)))
          (pss_one (ps_if (pt_cmpR op_ne (pe_meth (pv 0) T.K_Assumed T.m_Assumed_count_on (ok_Assumed_count_on T) (hr.mono (by decide)) T.b_Assumed_count_on .nil pass0 (pa_cons (pv 5) (pa_cons (pv 6) pa_nil))) (pe_callB call_len_seq (by rfl) T.n_len PySem.boot_len (pa_cons (pv 7) pa_nil)) (nomark _)) (pss_one (ps_ret pe_bl)) pss_nil)))))))
      (pss_one (ps_ret pe_bl)))))))), ?_⟩
    have hrl := rep_len hR
    obtain ⟨dx, ob⟩ := hA.ob
    -- sorted names of the rows
    refine nrm9 rfl ?_
    refine ⟨_, rfl, a.p, dx, _, rfl, ob, fl_Assumed_no_names, a, bd, rv, rfl, hA, fun ys L H1 hO hL s1 eL => ?_⟩
    refine gnm9 rfl ?_
    have hUy := ord_u4 hR hO
    have fy := flat_u4 hUy
    refine ⟨_, rfl, _, rfl, l, rfl, ⟨_, sql (s1 _ _ hl)⟩, fun D hD => ?_⟩
    refine lcd (K := K) rs R71.d (fun e => some (.str e.nm)) hD (sql (s1 _ _ hl)) (dpa_same s1 _ hx) (by omega) ?_ ?_
    · intro v e G he s4 _ hdp J j1 j2
      obtain ⟨p, v0, v1, v2, v3, v4, rfl, ht, ⟨⟩, ⟨⟩, ⟨⟩, ⟨⟩, ⟨⟩⟩ := dp_t5 hdp
      have ht := sqt_same s4 ht
      refine ⟨rfl, ?_⟩
      dsimp only [tYes]
      refine (if_pos rfl).mpr ?_
      exact ⟨_, rfl, p, _, 0, _, rfl, rfl, ht, atI_nat (j := 0) rfl, j2 _ _ G (Same.refl _) (fun _ _ _ => .str _) rfl⟩
    intro H2 vs2 s2 e2 h2
    rw [fm_some (fun e : R71 => PyData.str e.nm)] at h2
    have hm : rs.map (fun e : R71 => PyData.str e.nm) = (rs.map (·.nm)).map PyData.str := by rw [List.map_map]; rfl
    rw [hm] at h2
    rw [dps_back h2] at e2
    refine ⟨D, _, rfl, sql e2, by rw [List.length_map]; omega, fun zs p2 hp hs hp2 => ?_⟩
    have hzy := ord_rep hR hO hp hs
    subst hzy
    have s3 := same_upd (o := .lst (zs.map V.str)) hp2
    refine ⟨.list (zs.map .str), .list (zs.map .str), .lst (sql (s3 _ _ (s2 _ _ eL))) (dps_make _), .lst (sql upd_same) (dps_make _), fy.sh (by decide), fy.sh (by decide), _, rfl, ifbf (by rw [eqv_self (fy.sh (by decide))]; rfl) ?_⟩
    have s4 := (s1.trans s2).trans s3
    have eL3 := s3 _ _ (s2 _ _ eL)
    -- names.append
    refine ⟨_, rfl, .inl ⟨rfl, _, sql eL3⟩, L, _, _, rfl, rfl, eL3, szl (by have := (hp.length_eq); rw [List.length_map] at this; rw [List.length_map]; omega), ?_⟩
    have s5 : Same H (upd (upd H2 p2 (.lst (zs.map V.str))) L (.lst (zs.map V.str ++ [.str "zz/0"]))) := same_put s4 hL
    generalize upd (upd H2 p2 (.lst (zs.map V.str))) L (.lst (zs.map V.str ++ [.str "zz/0"])) = H5 at s5
    -- again
    have hA5 := hA.same s5
    refine ⟨_, rfl, a.p, dx, _, rfl, s5 _ _ ob, fl_Assumed_no_names, a, bd, rv, rfl, hA5, fun ys L2_ H6 hO6 hL6 s6 eL6 => ?_⟩
    have s7 := s5.trans s6
    refine ⟨_, rfl, l, rfl, ⟨_, sql (s7 _ _ hl)⟩, fun D6 hD6 => ?_⟩
    refine lcd (K := K) rs R71.d (fun e => some (.str e.nm)) hD6 (sql (s7 _ _ hl)) (dpa_same s7 _ hx) (by omega) ?_ ?_
    · intro v e G he s4 _ hdp J j1 j2
      obtain ⟨p, v0, v1, v2, v3, v4, rfl, ht, ⟨⟩, ⟨⟩, ⟨⟩, ⟨⟩, ⟨⟩⟩ := dp_t5 hdp
      have ht := sqt_same s4 ht
      refine ⟨rfl, ?_⟩
      dsimp only [tYes]
      refine (if_pos rfl).mpr ?_
      exact ⟨_, rfl, p, _, 0, _, rfl, rfl, ht, atI_nat (j := 0) rfl, j2 _ _ G (Same.refl _) (fun _ _ _ => .str _) rfl⟩
    intro H8 vs8 s8 e8 h8
    rw [fm_some (fun e : R71 => PyData.str e.nm), hm] at h8
    rw [dps_back h8] at e8
    refine ⟨D6, _, rfl, sql e8, by rw [List.length_map]; omega, fun zs9 p9 hp9 hs9 hpn9 => ?_⟩
    have hzy9 := ord_rep hR hO6 hp9 hs9
    subst hzy9
    have fy9 := flat_u4 (ord_u4 hR hO6)
    have s9 := same_upd (o := .lst (zs9.map V.str)) hpn9
    refine ⟨.list (zs9.map .str), .list (zs9.map .str), .lst (sql (s9 _ _ (s8 _ _ eL6))) (dps_make _), .lst (sql upd_same) (dps_make _), fy9.sh (by decide), fy9.sh (by decide), _, rfl, ifbf (by rw [eqv_self (fy9.sh (by decide))]; rfl) ?_⟩
    have s10 := (s7.trans s8).trans s9
    generalize upd H8 p9 (.lst (zs9.map V.str)) = H10 at s10
    clear s9 s8 s7 s6 s5 s4 s3 s2 s1 hA5 hD hD6 hp2 hpn9 hL6 hL
    -- each task
    refine ⟨(by show 5 ≤ sizeLine; decide), fun l1 hl1 => ⟨l1, rfl, ⟨_, sql upd_same⟩, ?_⟩⟩
    refine for_list (K := K) (a := l1) (xs := ([Str.ofString "web/0", Str.ofString "web/1", Str.ofString "db/0", Str.ofString "a/9", Str.ofString "b/0"] : List Str).map V.str) (fun j σ G => ∃ x3 x4, σ = [some (.ref a.p), some (.ref l), some (.ref L), x3, x4, none, none, none, none] ∧ Same H G ∧ G l1 = some (.lst (([Str.ofString "web/0", Str.ofString "web/1", Str.ofString "db/0", Str.ofString "a/9", Str.ofString "b/0"] : List Str).map V.str)))
      ⟨none, none, rfl, s10.trans (same_upd hl1), upd_same⟩ (fun _ _ _ _ ⟨_, _, _, _, h⟩ => sql h) ?_ ?_
    · rintro j x σ G hxj ⟨x3, x4, rfl, g1, g2⟩
      obtain ⟨k, _, rfl⟩ := map_at hxj
      refine gnm9 rfl ?_
      refine ⟨_, rfl, l, rfl, ⟨_, sql (g1 _ _ hl)⟩, fun D hD => ?_⟩
      refine lcd (K := K) rs R71.d (fun e => if eqN k e = true then some e.d else none) hD (sql (g1 _ _ hl)) (dpa_same g1 _ hx) (by omega) ?_ ?_
      · intro v e G he s4 _ hdp J j1 j2
        obtain ⟨p, v0, v1, v2, v3, v4, rfl, ht, ⟨⟩, ⟨⟩, ⟨⟩, ⟨⟩, ⟨⟩⟩ := dp_t5 hdp
        have ht := sqt_same s4 ht
        refine ⟨rfl, _, rfl, p, _, 0, _, rfl, rfl, ht, atI_nat (j := 0) rfl, _, rfl, rfl, _, rfl, ifd (fun h => ?_) (fun h => ?_)⟩
        · exact ⟨_, rfl, j2 _ _ G (Same.refl _) (fun G'' s3 _ => dp_same s3 _ hdp) (if_pos (decide_eq_true h))⟩
        · exact j1 _ (Same.refl _) (if_neg (by simpa [eqN] using h))
      intro G2 vs2 s2 e2 h2
      rw [fm_if] at h2
      have hlen := dpa_len h2
      rw [List.length_map, one_len hR.nod] at hlen
      refine ⟨D, _, rfl, .inl (sql e2), rfl, ?_⟩
      refine gnm9 rfl ?_
      have g3 := g1.trans s2
      refine ⟨_, rfl, a.p, dx, _, rfl, g3 _ _ ob, fl_Assumed_no_has, _, rfl, a, bd, rv, k, rfl, hA.same g3, _, rfl, rfl, _, rfl, ifnt (congrArg V.bl ?_) ?_⟩
      · rw [hlen, Bool.eq_iff_iff, ← rep_mem hR, decide_eq_true_iff]
        by_cases hk : k ∈ rs.map (·.nm)
        · simp [hk]
        · simp [hk]
      · exact ⟨_, _, rfl, g3, s2 _ _ g2⟩
    rintro σ G ⟨x3, x4, rfl, g1, g2⟩
    -- each node
    refine ⟨(by show 4 ≤ sizeLine; decide), fun l2 hl2 => ⟨l2, rfl, ⟨_, sql upd_same⟩, ?_⟩⟩
    refine for_list (K := K) (a := l2) (xs := ([Str.ofString "w1", Str.ofString "w2", Str.ofString "w10", Str.ofString "w3"] : List Str).map V.str) (fun j σ G => ∃ x5 x6 x7, σ = [some (.ref a.p), some (.ref l), some (.ref L), x3, x4, x5, x6, x7, none] ∧ Same H G ∧ G l2 = some (.lst (([Str.ofString "w1", Str.ofString "w2", Str.ofString "w10", Str.ofString "w3"] : List Str).map V.str)))
      ⟨none, none, none, rfl, g1.trans (same_upd hl2), upd_same⟩ (fun _ _ _ _ ⟨_, _, _, _, _, h⟩ => sql h) ?_ ?_
    · rintro j x σ G hxj ⟨x5, x6, x7, rfl, g1, g2⟩
      obtain ⟨nd, _, rfl⟩ := map_at hxj
      refine gnm9 rfl ?_
      refine ⟨_, rfl, a.p, dx, _, rfl, g1 _ _ ob, fl_Assumed_no_size_on, _, rfl, a, bd, rv, nd, rfl, hA.same g1, fun ks G2 kn km s2 => ?_⟩
      have g3 := g1.trans s2
      have g2 := s2 _ _ g2
      refine ⟨_, rfl, l, rfl, ⟨_, sql (g3 _ _ hl)⟩, fun D hD => ?_⟩
      refine lcd (K := K) rs R71.d (fun e => if eqD nd e = true then some (.int e.sz) else none) hD (sql (g3 _ _ hl)) (dpa_same g3 _ hx) (by omega) ?_ ?_
      · intro v e G he s4 _ hdp J j1 j2
        obtain ⟨p, v0, v1, v2, v3, v4, rfl, ht, ⟨⟩, ⟨⟩, ⟨⟩, ⟨⟩, ⟨⟩⟩ := dp_t5 hdp
        have ht := sqt_same s4 ht
        refine ⟨rfl, _, rfl, p, _, 1, _, rfl, rfl, ht, atI_nat (j := 1) rfl, _, rfl, rfl, _, rfl, ifd (fun h => ?_) (fun h => ?_)⟩
        · exact ⟨_, rfl, p, _, 2, _, rfl, rfl, ht, atI_nat (j := 2) rfl, j2 _ _ G (Same.refl _) (fun _ _ _ => .int _) (if_pos (decide_eq_true h))⟩
        · exact j1 _ (Same.refl _) (if_neg (by simpa [eqD] using h))
      intro G4 vs4 s4 e4 h4
      rw [fm_if] at h4
      have hmm : (rs.filter (eqD nd)).map (fun e : R71 => PyData.int e.sz) = ((rs.filter (eqD nd)).map (·.sz)).map PyData.int := by rw [List.map_map]; rfl
      rw [hmm] at h4
      rw [dpi_back h4] at e4
      refine ⟨D, _, rfl, sql e4, rfl, _, rfl, ifnt (congrArg V.int (size_eq hR kn km nd)) ?_⟩
      have g5 := g3.trans s4
      have g2 := s4 _ _ g2
      -- each born
      refine ⟨(by show 3 ≤ sizeLine; decide), fun l3 hl3 => ⟨l3, rfl, ⟨_, sql upd_same⟩, ?_⟩⟩
      refine for_list (K := K) (a := l3) (xs := ([5, 6, 7] : List Int).map V.int) (fun j σ G => ∃ x6 x7, σ = [some (.ref a.p), some (.ref l), some (.ref L), x3, x4, some (.str nd), x6, x7, none] ∧ Same H G ∧ G l2 = some (.lst (([Str.ofString "w1", Str.ofString "w2", Str.ofString "w10", Str.ofString "w3"] : List Str).map V.str)) ∧ G l3 = some (.lst (([5, 6, 7] : List Int).map V.int)))
        ⟨_, _, rfl, g5.trans (same_upd hl3), by rw [upd_ne (ne_of_none g2 hl3)]; exact g2, upd_same⟩ (fun _ _ _ _ ⟨_, _, _, _, _, h⟩ => sql h) ?_ ?_
      · rintro j x σ G hxj ⟨x6, x7, rfl, k1, k2, k3⟩
        obtain ⟨bn, _, rfl⟩ := map_at hxj
        refine gnm9 rfl ?_
        refine ⟨_, rfl, l, rfl, ⟨_, sql (k1 _ _ hl)⟩, fun D hD => ?_⟩
        refine lcd (K := K) rs R71.d (fun e => if eqDB nd bn e = true then some e.d else none) hD (sql (k1 _ _ hl)) (dpa_same k1 _ hx) (by omega) ?_ ?_
        · intro v e G he s4 _ hdp J j1 j2
          obtain ⟨p, v0, v1, v2, v3, v4, rfl, ht, ⟨⟩, ⟨⟩, ⟨⟩, ⟨⟩, ⟨⟩⟩ := dp_t5 hdp
          have ht := sqt_same s4 ht
          refine ⟨rfl, _, rfl, p, _, 1, _, rfl, rfl, ht, atI_nat (j := 1) rfl, _, rfl, rfl, _, rfl, ifd (fun h => ?_) (fun h => ifbf rfl (j1 _ (Same.refl _) (if_neg (by simp [eqDB, h]))))⟩
          refine ⟨_, rfl, p, _, 3, _, rfl, rfl, ht, atI_nat (j := 3) rfl, _, rfl, rfl, _, rfl, ifd (fun h' => ?_) (fun h' => j1 _ (Same.refl _) (if_neg (by simp [eqDB, h'])))⟩
          exact ⟨_, rfl, j2 _ _ G (Same.refl _) (fun G'' s3 _ => dp_same s3 _ hdp) (if_pos (by simp [eqDB, h, h']))⟩
        intro G6 vs6 s6 e6 h6
        rw [fm_if] at h6
        have hlen := dpa_len h6
        rw [List.length_map] at hlen
        refine gnm9 rfl ?_
        have k4 := k1.trans s6
        refine ⟨_, rfl, a.p, dx, _, rfl, k4 _ _ ob, fl_Assumed_no_count_on, _, rfl, _, rfl, a, bd, rv, nd, bn, rfl, hA.same k4, fun ks G7 kn km s7 => ?_⟩
        refine ⟨_, rfl, D, _, rfl, .inl (sql (s7 _ _ e6)), rfl, _, rfl, ifnt (congrArg V.int ?_) ?_⟩
        · rw [hlen, count_eq hR kn km]
        · exact ⟨_, _, rfl, k4.trans s7, s7 _ _ (s6 _ _ k2), s7 _ _ (s6 _ _ k3)⟩
      · rintro σ G ⟨x6, x7, rfl, k1, k2, k3⟩
        exact ⟨_, _, _, rfl, k1, k2⟩
    · rintro σ G ⟨x5, x6, x7, rfl, g1, g2⟩
      exact c _ g1
end
section
variable {P : Program} {w : World} {K : PySem.W.Frag} {mg : Str → Option Value} {base : Heap}
theorem same_new {H H' : Hp} {p dx : Addr} {o u : HO} (hp : H p = none) (hd : H dx = none) (f : Fr [p] (upd (upd H dx o) p u) H') : Same H H' := fun x v hx => by
  have n1 : x ≠ p := ne_of_none hx hp
  refine f x v ?_ (by simp [n1])
  rw [upd_ne n1, upd_ne (ne_of_none hx hd)]
  exact hx
theorem ok_law (T : TX K mg) : FnOk P w K mg base CX0 4 T.a_law T.d_law ["script"] (sp_law K) := by
  refine T.F_law.ok sc_law (fun vs H Q E h => ?_) (fun cdv A outer s H vs Q E hr h => ?_)
  · obtain ⟨a, ns, rfl, _⟩ := h
    rfl
  · obtain ⟨A0, ns, rfl, hS, hns, q⟩ := h
    refine ⟨_, (pss_cons (ps_set (i := 1) sc_law.nd rfl (Or.inl rfl) (pe_make0 T.M_Assumed (ok_Assumed___init__ T) (hr.mono (by decide)) (by rfl) T.g_Assumed T.b_Assumed___init__ .nil pass0))
      (pss_cons (ps_set (i := 2) sc_law.nd rfl (Or.inl rfl) (pe_make0 T.M_Assumed (ok_Assumed___init__ T) (hr.mono (by decide)) (by rfl) T.g_Assumed T.b_Assumed___init__ .nil pass0))
      (pss_cons (ps_set (i := 3) sc_law.nd rfl (Or.inl rfl) (pe_lst pa_nil))
      (pss_cons (ps_if (pt_not (pt_val (pe_call (ok__law_agrees T) (hr.mono (by decide)) (by rfl) T.g__law_agrees T.F__law_agrees.kp T.b__law_agrees .nil pass0 (pa_cons (pv 1) (pa_cons (pv 3) pa_nil))))) (pss_one (ps_ret pe_bl)) pss_nil)
      (pss_cons (ps_for PassesOwn.never rfl (pi_range1 (by rfl) T.n_range (pa_cons (pe_callB (call_min2 rfl) (by rfl) T.n_min (by decide +kernel) (pa_cons pe_int (pa_cons (pe_callB call_len_seq (by rfl) T.n_len PySem.boot_len (pa_cons (pv 0) pa_nil)) pa_nil))) pa_nil)) (pg_name (i := 4) sc_law.nd rfl (Or.inl rfl))
        (pss_cons (ps_set (i := 5) sc_law.nd rfl (Or.inl rfl) (pe_call (ok__law_digits T) (hr.mono (by decide)) (by rfl) T.g__law_digits T.F__law_digits.kp T.b__law_digits .nil pass0 (pa_cons (pv 0) (pa_cons (pv 4) (pa_cons (pe_lst (pa_cons pe_int (pa_cons pe_int (pa_cons pe_int (pa_cons pe_int (pa_cons pe_int (pa_cons pe_int pa_nil))))))) pa_nil)))))
        (pss_cons (ps_set (i := 3) sc_law.nd rfl (Or.inl rfl) (pe_call (ok__law_deed T) (hr.mono (by decide)) (by rfl) T.g__law_deed T.F__law_deed.kp T.b__law_deed .nil pass0 (pa_cons (pv 1) (pa_cons (pv 3) (pa_cons (pv 5) pa_nil)))))
        (pss_one (ps_if (PW.pt (pw_or (pt_not (pt_val (pe_call (ok__law_agrees T) (hr.mono (by decide)) (by rfl) T.g__law_agrees T.F__law_agrees.kp T.b__law_agrees .nil pass0 (pa_cons (pv 1) (pa_cons (pv 3) pa_nil))))) (pw_or1 (pt_cmpR (op_neD hr.units) (pe_meth0 (pv 2) T.K_Assumed T.m_Assumed_names (ok_Assumed_names T) (hr.mono (by decide)) T.b_Assumed_names .nil pass0) (pe_lst pa_nil) (nomark _))))) (pss_one (ps_ret pe_bl)) pss_nil)))))
      (pss_one (ps_ret pe_bl))))))), ?_⟩
    refine nrm6 rfl ?_
    refine fun p dx hp hdx npdx => ⟨p, dx, rfl, upd_same, fun a H1 ea n1 n2 hA f1 => ⟨rfl, ?_⟩⟩
    have s1 := same_new hp hdx f1
    subst ea
    refine gnm6 rfl ?_
    refine fun p2 dx2 hp2 hdx2 npdx2 => ⟨p2, dx2, rfl, upd_same, fun b H2 eb m1 m2 hB f2 => ⟨rfl, ?_⟩⟩
    have s2 := same_new hp2 hdx2 f2
    subst eb
    refine gnm6 rfl ?_
    have hA2 := hA.same s2
    have hab : ∀ x ∈ b.all, x ∉ a.all := by
      have free : ∀ x, H1 x = none → x ∉ a.all := fun x hx z => by
        obtain ⟨⟨d, ob⟩, ⟨k1, f, e1, _⟩, ⟨k2, e2, _⟩, _⟩ := hA
        simp only [AP.all, List.mem_cons, List.not_mem_nil, or_false] at z
        rcases z with rfl | rfl | rfl
        · rw [ob] at hx; cases hx
        · rw [e1] at hx; cases hx
        · rw [e2] at hx; cases hx
      have up : ∀ x, (upd (upd H1 dx2 (HO.own b.p)) b.p (HO.ins T.a_Assumed dx2 [])) x = none → H1 x = none := fun x hx => by
        by_cases e : x = b.p
        · rw [e]; exact hp2
        · rw [upd_ne e] at hx
          by_cases e2 : x = dx2
          · rw [e2]; exact hdx2
          · rw [upd_ne e2] at hx; exact hx
      intro x hx
      simp only [AP.all, List.mem_cons, List.not_mem_nil, or_false] at hx
      rcases hx with rfl | rfl | rfl
      · exact free _ hp2
      · exact free _ (up _ m1)
      · exact free _ (up _ m2)
    have s3 := s1.trans s2
    clear hA f1 f2 n1 n2 m1 m2 hp hdx hp2 hdx2 npdx npdx2 s1 s2
    refine ⟨Nat.zero_le _, fun l0 hl0 => ?_⟩
    have s4 := same_upd (o := .lst []) hl0
    have el := upd_same (H := H2) (a := l0) (o := .lst [])
    have hA3 := hA2.same s4
    have hB3 := hB.same s4
    have hS3 := (s3.trans s4).seq hS
    generalize upd H2 l0 (.lst []) = H3 at s4 el hA3 hB3 hS3
    clear s3 s4 hl0 hA2 hB
    refine gnm6 rfl ?_
    refine ⟨_, rfl, _, rfl, a, l0, [], _, _, [], rfl, hA3, el, .nil, rep_nil, fun H4 s5 => ⟨_, rfl, ifbf rfl ?_⟩⟩
    have hA4 := hA3.same s5
    have hB4 := hB3.same s5
    have hS4 := s5.seq hS3
    have el := s5 _ _ el
    clear s5 hA3 hB3 hS3
    have hml : (ns.map V.int).length = ns.length := List.length_map _
    obtain ⟨m, hm, hm63⟩ : ∃ m : Nat, (if ((ns.map V.int).length : Int) < (60 : Int) then ((ns.map V.int).length : Int) else (60 : Int)) = (m : Int) ∧ m ≤ 63 := by
      rw [hml]
      refine ⟨min ns.length 60, ?_, by omega⟩
      split <;> omega
    refine ⟨_, rfl, A0, _, rfl, .inl hS4, _, _, rfl, ?_⟩
    refine ⟨(m : Int), by rw [← hm], by omega, by omega, for_range (lo := 0) (n := _) (fun i σ G => ∃ l ys bd rv rs x4 x5, σ = [some (.ref A0), some (.ref a.p), some (.ref b.p), some (.ref l), x4, x5] ∧ AT T.a_Assumed G a bd rv ∧ AT T.a_Assumed G b (fun _ => none) (fun _ => none) ∧ Rep rs bd rv ∧ G l = some (.lst ys) ∧ DpAll K G ys (rs.map R71.d) ∧ SqL K G A0 (ns.map V.int))
      ⟨l0, [], _, _, [], none, none, rfl, hA4, hB4, rep_nil, el, .nil, hS4⟩ ?_ ?_⟩
    · rintro i σ G hi ⟨l, ys, bd, rv, rs, x4, x5, rfl, hA, hB, hR, el, hx, hS⟩
      refine gnm6 rfl ?_
      refine ⟨_, rfl, _, rfl, (by show 6 ≤ sizeLine; decide), fun z hz => ?_⟩
      have s1 := same_upd (o := .lst [.int 7, .int 4, .int 3, .int 10, .int 2, .int 12]) hz
      refine ⟨A0, z, ns, [7, 4, 3, 10, 2, 12], _, rfl, s1.seq hS, ⟨by omega, by omega⟩, sql upd_same, by decide, (by simp), fun p H3 ds hp s2 e2 hd => ?_⟩
      obtain ⟨d0, d1, d2, d3, d4, d5, rfl, b0, b1, b2, b3, b4, b5⟩ := digs6 hd
      have s3 := s1.trans s2
      refine gnm6 rfl ?_
      have hA1 := hA.same s3
      refine ⟨_, rfl, _, rfl, _, rfl, a, l, p, ys, bd, rv, rs, d0, d1, d2, d3, d4, d5, rfl, hA1, s3 _ _ el, dpa_same s3 _ hx, hR, e2, b1, b2, b5, fun l2 H4 ys2 bd2 rv2 rs2 hA2 hR2 el2 hx2 f4 => ?_⟩
      have nq := hA1.noseq
      have hS2 : SqL K H4 A0 (ns.map V.int) := sql_fr nq f4 (s3.seq hS)
      have hB2 : AT T.a_Assumed H4 b (fun _ => none) (fun _ => none) := by
        obtain ⟨⟨d, ob⟩, ⟨k1, f, e1, ds1, g1⟩, ⟨k2, e2, ds2⟩, ne⟩ := hB.same s3
        refine ⟨⟨d, f4 _ _ ob (hab _ (by simp [AP.all]))⟩, ⟨k1, f, f4 _ _ e1 (hab _ (by simp [AP.all])), ds1, fun s => ?_⟩, ⟨k2, f4 _ _ e2 (hab _ (by simp [AP.all])), ds2⟩, ne⟩
        rcases g1 s with g | ⟨x, t, _, h2, _⟩
        · exact .inl g
        · cases h2
      refine gnm6 rfl ?_
      refine ⟨_, rfl, _, rfl, a, l2, ys2, bd2, rv2, rs2, rfl, hA2, el2, hx2, hR2, fun H5 s5 => ⟨_, rfl, ifbf rfl ?_⟩⟩
      have hB5 := hB2.same s5
      obtain ⟨dxb, obb⟩ := hB5.ob
      refine ⟨_, rfl, b.p, dxb, _, rfl, obb, fl_Assumed_no_names, b, _, _, rfl, hB5, fun zs L H6 hO hL s6 eL => ?_⟩
      have hz0 : zs = [] := by
        cases zs with
        | nil => rfl
        | cons z0 r => have := (hO.2.2 z0).mp List.mem_cons_self; cases this
      subst hz0
      refine ⟨(by show 0 ≤ sizeLine; decide), fun t ht => ?_⟩
      have s7 := same_upd (o := .lst []) ht
      refine ⟨.list [], .list [], .lst (sql (s7 _ _ eL)) .nil, .lst (sql upd_same) .nil, rfl, rfl, _, rfl, ifbf rfl ?_⟩
      have s8 := (s5.trans s6).trans s7
      exact ⟨l2, ys2, bd2, rv2, rs2, _, _, rfl, hA2.same s8, hB2.same s8, hR2, s8 _ _ el2, dpa_same s8 _ hx2, s8.seq hS2⟩
    · rintro σ G ⟨l, ys, bd, rv, rs, x4, x5, rfl, _⟩
      exact q _
end
theorem all_mk {l : PySem.W.OpenLaw} {w : World} {K : PySem.W.Frag} {h : Heap} {mg : Str → Option Value} {fa : Addr} (X : K.In h) (G : h.Ns mainGlobals mg) (hfa : mg "law" = some (.ref fa))
    {C_Assumed : Addr} {f_Assumed___init__ : Addr} {od_Assumed___init__ an_Assumed___init__ : Option Addr} {sl_Assumed___init__ : Array (Option Value)} {oc_Assumed___init__ kV_Assumed___init__ dc_Assumed___init__ pm_Assumed___init__ cd_Assumed___init__ ct_Assumed___init__ : Value} {f_Assumed_add : Addr} {od_Assumed_add an_Assumed_add : Option Addr} {sl_Assumed_add : Array (Option Value)} {oc_Assumed_add kV_Assumed_add dc_Assumed_add pm_Assumed_add cd_Assumed_add ct_Assumed_add : Value} {f_Assumed_done : Addr} {od_Assumed_done an_Assumed_done : Option Addr} {sl_Assumed_done : Array (Option Value)} {oc_Assumed_done kV_Assumed_done dc_Assumed_done pm_Assumed_done cd_Assumed_done ct_Assumed_done : Value} {f_Assumed_drop : Addr} {od_Assumed_drop an_Assumed_drop : Option Addr} {sl_Assumed_drop : Array (Option Value)} {oc_Assumed_drop kV_Assumed_drop dc_Assumed_drop pm_Assumed_drop cd_Assumed_drop ct_Assumed_drop : Value} {f_Assumed_settle : Addr} {od_Assumed_settle an_Assumed_settle : Option Addr} {sl_Assumed_settle : Array (Option Value)} {oc_Assumed_settle kV_Assumed_settle dc_Assumed_settle pm_Assumed_settle cd_Assumed_settle ct_Assumed_settle : Value} {f_Assumed_has : Addr} {od_Assumed_has an_Assumed_has : Option Addr} {sl_Assumed_has : Array (Option Value)} {oc_Assumed_has kV_Assumed_has dc_Assumed_has pm_Assumed_has cd_Assumed_has ct_Assumed_has : Value} {f_Assumed_size_on : Addr} {od_Assumed_size_on an_Assumed_size_on : Option Addr} {sl_Assumed_size_on : Array (Option Value)} {oc_Assumed_size_on kV_Assumed_size_on dc_Assumed_size_on pm_Assumed_size_on cd_Assumed_size_on ct_Assumed_size_on : Value} {f_Assumed_count_on : Addr} {od_Assumed_count_on an_Assumed_count_on : Option Addr} {sl_Assumed_count_on : Array (Option Value)} {oc_Assumed_count_on kV_Assumed_count_on dc_Assumed_count_on pm_Assumed_count_on cd_Assumed_count_on ct_Assumed_count_on : Value} {f_Assumed_names : Addr} {od_Assumed_names an_Assumed_names : Option Addr} {sl_Assumed_names : Array (Option Value)} {oc_Assumed_names kV_Assumed_names dc_Assumed_names pm_Assumed_names cd_Assumed_names ct_Assumed_names : Value} {f__law_number : Addr} {od__law_number an__law_number : Option Addr} {sl__law_number : Array (Option Value)} {oc__law_number kV__law_number dc__law_number pm__law_number cd__law_number ct__law_number : Value} {f__law_digits : Addr} {od__law_digits an__law_digits : Option Addr} {sl__law_digits : Array (Option Value)} {oc__law_digits kV__law_digits dc__law_digits pm__law_digits cd__law_digits ct__law_digits : Value} {f__law_add : Addr} {od__law_add an__law_add : Option Addr} {sl__law_add : Array (Option Value)} {oc__law_add kV__law_add dc__law_add pm__law_add cd__law_add ct__law_add : Value} {f__law_deed : Addr} {od__law_deed an__law_deed : Option Addr} {sl__law_deed : Array (Option Value)} {oc__law_deed kV__law_deed dc__law_deed pm__law_deed cd__law_deed ct__law_deed : Value} {f__law_agrees : Addr} {od__law_agrees an__law_agrees : Option Addr} {sl__law_agrees : Array (Option Value)} {oc__law_agrees kV__law_agrees dc__law_agrees pm__law_agrees cd__law_agrees ct__law_agrees : Value} {f_law : Addr} {od_law an_law : Option Addr} {sl_law : Array (Option Value)} {oc_law kV_law dc_law pm_law cd_law ct_law : Value} {t_NODE : Tok} {t_SIZE : Tok} {t_SERVICE_BORN : Tok}
    (gc_Assumed : PySem.W.nsIn K mainGlobals "Assumed" = some (some (.ref C_Assumed)))
    (m_Assumed___init__ : PySem.W.findIn K (.ref C_Assumed) "__init__" = some (some (.ref f_Assumed___init__)))
    (i_Assumed___init__ : PySem.W.isFn K (.ref f_Assumed___init__) = true)
    (l_Assumed___init__ : K.lookup f_Assumed___init__ = some ⟨oc_Assumed___init__, od_Assumed___init__, .func (PySem.W.fnOf "__init__" "Assumed.__init__" (defArgs s_Assumed___init__) (defBody s_Assumed___init__) (defScope s_Assumed___init__) .none kV_Assumed___init__ dc_Assumed___init__ pm_Assumed___init__ an_Assumed___init__ cd_Assumed___init__ ct_Assumed___init__), sl_Assumed___init__⟩)
    (c_Assumed___init__ : PySem.W.codeIn K cd_Assumed___init__ "Assumed.__init__" = true)
    (k_Assumed___init__ : PySem.W.keepIn K (.ref f_Assumed___init__) = true)
    (m_Assumed_add : PySem.W.findIn K (.ref C_Assumed) "add" = some (some (.ref f_Assumed_add)))
    (i_Assumed_add : PySem.W.isFn K (.ref f_Assumed_add) = true)
    (l_Assumed_add : K.lookup f_Assumed_add = some ⟨oc_Assumed_add, od_Assumed_add, .func (PySem.W.fnOf "add" "Assumed.add" (defArgs s_Assumed_add) (defBody s_Assumed_add) (defScope s_Assumed_add) .none kV_Assumed_add dc_Assumed_add pm_Assumed_add an_Assumed_add cd_Assumed_add ct_Assumed_add), sl_Assumed_add⟩)
    (c_Assumed_add : PySem.W.codeIn K cd_Assumed_add "Assumed.add" = true)
    (k_Assumed_add : PySem.W.keepIn K (.ref f_Assumed_add) = true)
    (m_Assumed_done : PySem.W.findIn K (.ref C_Assumed) "done" = some (some (.ref f_Assumed_done)))
    (i_Assumed_done : PySem.W.isFn K (.ref f_Assumed_done) = true)
    (l_Assumed_done : K.lookup f_Assumed_done = some ⟨oc_Assumed_done, od_Assumed_done, .func (PySem.W.fnOf "done" "Assumed.done" (defArgs s_Assumed_done) (defBody s_Assumed_done) (defScope s_Assumed_done) .none kV_Assumed_done dc_Assumed_done pm_Assumed_done an_Assumed_done cd_Assumed_done ct_Assumed_done), sl_Assumed_done⟩)
    (c_Assumed_done : PySem.W.codeIn K cd_Assumed_done "Assumed.done" = true)
    (k_Assumed_done : PySem.W.keepIn K (.ref f_Assumed_done) = true)
    (m_Assumed_drop : PySem.W.findIn K (.ref C_Assumed) "drop" = some (some (.ref f_Assumed_drop)))
    (i_Assumed_drop : PySem.W.isFn K (.ref f_Assumed_drop) = true)
    (l_Assumed_drop : K.lookup f_Assumed_drop = some ⟨oc_Assumed_drop, od_Assumed_drop, .func (PySem.W.fnOf "drop" "Assumed.drop" (defArgs s_Assumed_drop) (defBody s_Assumed_drop) (defScope s_Assumed_drop) .none kV_Assumed_drop dc_Assumed_drop pm_Assumed_drop an_Assumed_drop cd_Assumed_drop ct_Assumed_drop), sl_Assumed_drop⟩)
    (c_Assumed_drop : PySem.W.codeIn K cd_Assumed_drop "Assumed.drop" = true)
    (k_Assumed_drop : PySem.W.keepIn K (.ref f_Assumed_drop) = true)
    (m_Assumed_settle : PySem.W.findIn K (.ref C_Assumed) "settle" = some (some (.ref f_Assumed_settle)))
    (i_Assumed_settle : PySem.W.isFn K (.ref f_Assumed_settle) = true)
    (l_Assumed_settle : K.lookup f_Assumed_settle = some ⟨oc_Assumed_settle, od_Assumed_settle, .func (PySem.W.fnOf "settle" "Assumed.settle" (defArgs s_Assumed_settle) (defBody s_Assumed_settle) (defScope s_Assumed_settle) .none kV_Assumed_settle dc_Assumed_settle pm_Assumed_settle an_Assumed_settle cd_Assumed_settle ct_Assumed_settle), sl_Assumed_settle⟩)
    (c_Assumed_settle : PySem.W.codeIn K cd_Assumed_settle "Assumed.settle" = true)
    (k_Assumed_settle : PySem.W.keepIn K (.ref f_Assumed_settle) = true)
    (m_Assumed_has : PySem.W.findIn K (.ref C_Assumed) "has" = some (some (.ref f_Assumed_has)))
    (i_Assumed_has : PySem.W.isFn K (.ref f_Assumed_has) = true)
    (l_Assumed_has : K.lookup f_Assumed_has = some ⟨oc_Assumed_has, od_Assumed_has, .func (PySem.W.fnOf "has" "Assumed.has" (defArgs s_Assumed_has) (defBody s_Assumed_has) (defScope s_Assumed_has) .none kV_Assumed_has dc_Assumed_has pm_Assumed_has an_Assumed_has cd_Assumed_has ct_Assumed_has), sl_Assumed_has⟩)
    (c_Assumed_has : PySem.W.codeIn K cd_Assumed_has "Assumed.has" = true)
    (k_Assumed_has : PySem.W.keepIn K (.ref f_Assumed_has) = true)
    (m_Assumed_size_on : PySem.W.findIn K (.ref C_Assumed) "size_on" = some (some (.ref f_Assumed_size_on)))
    (i_Assumed_size_on : PySem.W.isFn K (.ref f_Assumed_size_on) = true)
    (l_Assumed_size_on : K.lookup f_Assumed_size_on = some ⟨oc_Assumed_size_on, od_Assumed_size_on, .func (PySem.W.fnOf "size_on" "Assumed.size_on" (defArgs s_Assumed_size_on) (defBody s_Assumed_size_on) (defScope s_Assumed_size_on) .none kV_Assumed_size_on dc_Assumed_size_on pm_Assumed_size_on an_Assumed_size_on cd_Assumed_size_on ct_Assumed_size_on), sl_Assumed_size_on⟩)
    (c_Assumed_size_on : PySem.W.codeIn K cd_Assumed_size_on "Assumed.size_on" = true)
    (k_Assumed_size_on : PySem.W.keepIn K (.ref f_Assumed_size_on) = true)
    (m_Assumed_count_on : PySem.W.findIn K (.ref C_Assumed) "count_on" = some (some (.ref f_Assumed_count_on)))
    (i_Assumed_count_on : PySem.W.isFn K (.ref f_Assumed_count_on) = true)
    (l_Assumed_count_on : K.lookup f_Assumed_count_on = some ⟨oc_Assumed_count_on, od_Assumed_count_on, .func (PySem.W.fnOf "count_on" "Assumed.count_on" (defArgs s_Assumed_count_on) (defBody s_Assumed_count_on) (defScope s_Assumed_count_on) .none kV_Assumed_count_on dc_Assumed_count_on pm_Assumed_count_on an_Assumed_count_on cd_Assumed_count_on ct_Assumed_count_on), sl_Assumed_count_on⟩)
    (c_Assumed_count_on : PySem.W.codeIn K cd_Assumed_count_on "Assumed.count_on" = true)
    (k_Assumed_count_on : PySem.W.keepIn K (.ref f_Assumed_count_on) = true)
    (m_Assumed_names : PySem.W.findIn K (.ref C_Assumed) "names" = some (some (.ref f_Assumed_names)))
    (i_Assumed_names : PySem.W.isFn K (.ref f_Assumed_names) = true)
    (l_Assumed_names : K.lookup f_Assumed_names = some ⟨oc_Assumed_names, od_Assumed_names, .func (PySem.W.fnOf "names" "Assumed.names" (defArgs s_Assumed_names) (defBody s_Assumed_names) (defScope s_Assumed_names) .none kV_Assumed_names dc_Assumed_names pm_Assumed_names an_Assumed_names cd_Assumed_names ct_Assumed_names), sl_Assumed_names⟩)
    (c_Assumed_names : PySem.W.codeIn K cd_Assumed_names "Assumed.names" = true)
    (k_Assumed_names : PySem.W.keepIn K (.ref f_Assumed_names) = true)
    (g__law_number : PySem.W.nsIn K mainGlobals "_law_number" = some (some (.ref f__law_number)))
    (l__law_number : K.lookup f__law_number = some ⟨oc__law_number, od__law_number, .func (PySem.W.fnOf "_law_number" "_law_number" (defArgs s__law_number) (defBody s__law_number) (defScope s__law_number) .none kV__law_number dc__law_number pm__law_number an__law_number cd__law_number ct__law_number), sl__law_number⟩)
    (c__law_number : PySem.W.codeIn K cd__law_number "_law_number" = true)
    (k__law_number : PySem.W.keepIn K (.ref f__law_number) = true)
    (g__law_digits : PySem.W.nsIn K mainGlobals "_law_digits" = some (some (.ref f__law_digits)))
    (l__law_digits : K.lookup f__law_digits = some ⟨oc__law_digits, od__law_digits, .func (PySem.W.fnOf "_law_digits" "_law_digits" (defArgs s__law_digits) (defBody s__law_digits) (defScope s__law_digits) .none kV__law_digits dc__law_digits pm__law_digits an__law_digits cd__law_digits ct__law_digits), sl__law_digits⟩)
    (c__law_digits : PySem.W.codeIn K cd__law_digits "_law_digits" = true)
    (k__law_digits : PySem.W.keepIn K (.ref f__law_digits) = true)
    (g__law_add : PySem.W.nsIn K mainGlobals "_law_add" = some (some (.ref f__law_add)))
    (l__law_add : K.lookup f__law_add = some ⟨oc__law_add, od__law_add, .func (PySem.W.fnOf "_law_add" "_law_add" (defArgs s__law_add) (defBody s__law_add) (defScope s__law_add) .none kV__law_add dc__law_add pm__law_add an__law_add cd__law_add ct__law_add), sl__law_add⟩)
    (c__law_add : PySem.W.codeIn K cd__law_add "_law_add" = true)
    (k__law_add : PySem.W.keepIn K (.ref f__law_add) = true)
    (g__law_deed : PySem.W.nsIn K mainGlobals "_law_deed" = some (some (.ref f__law_deed)))
    (l__law_deed : K.lookup f__law_deed = some ⟨oc__law_deed, od__law_deed, .func (PySem.W.fnOf "_law_deed" "_law_deed" (defArgs s__law_deed) (defBody s__law_deed) (defScope s__law_deed) .none kV__law_deed dc__law_deed pm__law_deed an__law_deed cd__law_deed ct__law_deed), sl__law_deed⟩)
    (c__law_deed : PySem.W.codeIn K cd__law_deed "_law_deed" = true)
    (k__law_deed : PySem.W.keepIn K (.ref f__law_deed) = true)
    (g__law_agrees : PySem.W.nsIn K mainGlobals "_law_agrees" = some (some (.ref f__law_agrees)))
    (l__law_agrees : K.lookup f__law_agrees = some ⟨oc__law_agrees, od__law_agrees, .func (PySem.W.fnOf "_law_agrees" "_law_agrees" (defArgs s__law_agrees) (defBody s__law_agrees) (defScope s__law_agrees) .none kV__law_agrees dc__law_agrees pm__law_agrees an__law_agrees cd__law_agrees ct__law_agrees), sl__law_agrees⟩)
    (c__law_agrees : PySem.W.codeIn K cd__law_agrees "_law_agrees" = true)
    (k__law_agrees : PySem.W.keepIn K (.ref f__law_agrees) = true)
    (g_law : PySem.W.nsIn K mainGlobals "law" = some (some (.ref f_law)))
    (l_law : K.lookup f_law = some ⟨oc_law, od_law, .func (PySem.W.fnOf "law" "law" (defArgs s_law) (defBody s_law) (defScope s_law) .none kV_law dc_law pm_law an_law cd_law ct_law), sl_law⟩)
    (c_law : PySem.W.codeIn K cd_law "law" = true)
    (k_law : PySem.W.keepIn K (.ref f_law) = true)
    (pg_Assumed : PySem.W.plainGet K C_Assumed Str.empty = true)
    (hd_Assumed : PySem.W.hasDictIn K C_Assumed = true)
    (po_Assumed : PySem.W.plainOver K C_Assumed = true)
    (sa_Assumed : PySem.W.findIn K (.ref C_Assumed) "__setattr__" = some (some (.builtin "object.__setattr__")))
    (mk_Assumed : PySem.W.makesIn K C_Assumed = true)
    (kc_Assumed : PySem.W.keepIn K (.ref C_Assumed) = true)
    (na_Assumed__binds : PySem.W.findIn K (.ref C_Assumed) "_binds" = some none)
    (na_Assumed__revisions : PySem.W.findIn K (.ref C_Assumed) "_revisions" = some none)
    (c_NODE : PySem.W.nsIn K mainGlobals "NODE" = some (some (.int 0 t_NODE)))
    (c_SIZE : PySem.W.nsIn K mainGlobals "SIZE" = some (some (.int 1 t_SIZE)))
    (c_SERVICE_BORN : PySem.W.nsIn K mainGlobals "SERVICE_BORN" = some (some (.int 2 t_SERVICE_BORN)))
    (n_len : PySem.W.nsIn K mainGlobals "len" = some none)
    (n_abs : PySem.W.nsIn K mainGlobals "abs" = some none)
    (n_int : PySem.W.nsIn K mainGlobals "int" = some none)
    (n_sorted : PySem.W.nsIn K mainGlobals "sorted" = some none)
    (n_sum : PySem.W.nsIn K mainGlobals "sum" = some none)
    (n_range : PySem.W.nsIn K mainGlobals "range" = some none)
    (n_min : PySem.W.nsIn K mainGlobals "min" = some none) :
    ∃ fd : FuncData, (∀ (s : Shared) (v : Value), BindsTo s fd ⟨[v], []⟩ [("script", v)]) ∧ ∀ base : Heap, K.In base → base.Ns mainGlobals mg → FnOk l.prog w K mg base CX0 4 fa fd ["script"] (sp_law K) := by
  have e : fa = f_law := by
    have z := hfa.symm.trans (PySem.W.mg_of X G g_law)
    injection z with z
    injection z
  rw [e]
  let T : TX K mg := ⟨C_Assumed, f_Assumed___init__, (PySem.W.fnOf "__init__" "Assumed.__init__" (defArgs s_Assumed___init__) (defBody s_Assumed___init__) (defScope s_Assumed___init__) .none kV_Assumed___init__ dc_Assumed___init__ pm_Assumed___init__ an_Assumed___init__ cd_Assumed___init__ ct_Assumed___init__), (fun_mk (st := s_Assumed___init__) l_Assumed___init__ c_Assumed___init__ k_Assumed___init__), ((fun_mk (st := s_Assumed___init__) l_Assumed___init__ c_Assumed___init__ k_Assumed___init__).binds (ps := ["self"]) fun _ _ _ _ _ _ us hl => match us, hl with | [_], _ => rfl), f_Assumed_add, (PySem.W.fnOf "add" "Assumed.add" (defArgs s_Assumed_add) (defBody s_Assumed_add) (defScope s_Assumed_add) .none kV_Assumed_add dc_Assumed_add pm_Assumed_add an_Assumed_add cd_Assumed_add ct_Assumed_add), (fun_mk (st := s_Assumed_add) l_Assumed_add c_Assumed_add k_Assumed_add), ((fun_mk (st := s_Assumed_add) l_Assumed_add c_Assumed_add k_Assumed_add).binds (ps := ["self", "task", "node", "size", "service_born"]) fun _ _ _ _ _ _ us hl => match us, hl with | [_, _, _, _, _], _ => rfl), ⟨m_Assumed_add, i_Assumed_add, k_Assumed_add⟩, f_Assumed_done, (PySem.W.fnOf "done" "Assumed.done" (defArgs s_Assumed_done) (defBody s_Assumed_done) (defScope s_Assumed_done) .none kV_Assumed_done dc_Assumed_done pm_Assumed_done an_Assumed_done cd_Assumed_done ct_Assumed_done), (fun_mk (st := s_Assumed_done) l_Assumed_done c_Assumed_done k_Assumed_done), ((fun_mk (st := s_Assumed_done) l_Assumed_done c_Assumed_done k_Assumed_done).binds (ps := ["self", "task", "revision"]) fun _ _ _ _ _ _ us hl => match us, hl with | [_, _, _], _ => rfl), ⟨m_Assumed_done, i_Assumed_done, k_Assumed_done⟩, f_Assumed_drop, (PySem.W.fnOf "drop" "Assumed.drop" (defArgs s_Assumed_drop) (defBody s_Assumed_drop) (defScope s_Assumed_drop) .none kV_Assumed_drop dc_Assumed_drop pm_Assumed_drop an_Assumed_drop cd_Assumed_drop ct_Assumed_drop), (fun_mk (st := s_Assumed_drop) l_Assumed_drop c_Assumed_drop k_Assumed_drop), ((fun_mk (st := s_Assumed_drop) l_Assumed_drop c_Assumed_drop k_Assumed_drop).binds (ps := ["self", "task"]) fun _ _ _ _ _ _ us hl => match us, hl with | [_, _], _ => rfl), ⟨m_Assumed_drop, i_Assumed_drop, k_Assumed_drop⟩, f_Assumed_settle, (PySem.W.fnOf "settle" "Assumed.settle" (defArgs s_Assumed_settle) (defBody s_Assumed_settle) (defScope s_Assumed_settle) .none kV_Assumed_settle dc_Assumed_settle pm_Assumed_settle an_Assumed_settle cd_Assumed_settle ct_Assumed_settle), (fun_mk (st := s_Assumed_settle) l_Assumed_settle c_Assumed_settle k_Assumed_settle), ((fun_mk (st := s_Assumed_settle) l_Assumed_settle c_Assumed_settle k_Assumed_settle).binds (ps := ["self", "revision"]) fun _ _ _ _ _ _ us hl => match us, hl with | [_, _], _ => rfl), ⟨m_Assumed_settle, i_Assumed_settle, k_Assumed_settle⟩, f_Assumed_has, (PySem.W.fnOf "has" "Assumed.has" (defArgs s_Assumed_has) (defBody s_Assumed_has) (defScope s_Assumed_has) .none kV_Assumed_has dc_Assumed_has pm_Assumed_has an_Assumed_has cd_Assumed_has ct_Assumed_has), (fun_mk (st := s_Assumed_has) l_Assumed_has c_Assumed_has k_Assumed_has), ((fun_mk (st := s_Assumed_has) l_Assumed_has c_Assumed_has k_Assumed_has).binds (ps := ["self", "task"]) fun _ _ _ _ _ _ us hl => match us, hl with | [_, _], _ => rfl), ⟨m_Assumed_has, i_Assumed_has, k_Assumed_has⟩, f_Assumed_size_on, (PySem.W.fnOf "size_on" "Assumed.size_on" (defArgs s_Assumed_size_on) (defBody s_Assumed_size_on) (defScope s_Assumed_size_on) .none kV_Assumed_size_on dc_Assumed_size_on pm_Assumed_size_on an_Assumed_size_on cd_Assumed_size_on ct_Assumed_size_on), (fun_mk (st := s_Assumed_size_on) l_Assumed_size_on c_Assumed_size_on k_Assumed_size_on), ((fun_mk (st := s_Assumed_size_on) l_Assumed_size_on c_Assumed_size_on k_Assumed_size_on).binds (ps := ["self", "node"]) fun _ _ _ _ _ _ us hl => match us, hl with | [_, _], _ => rfl), ⟨m_Assumed_size_on, i_Assumed_size_on, k_Assumed_size_on⟩, f_Assumed_count_on, (PySem.W.fnOf "count_on" "Assumed.count_on" (defArgs s_Assumed_count_on) (defBody s_Assumed_count_on) (defScope s_Assumed_count_on) .none kV_Assumed_count_on dc_Assumed_count_on pm_Assumed_count_on an_Assumed_count_on cd_Assumed_count_on ct_Assumed_count_on), (fun_mk (st := s_Assumed_count_on) l_Assumed_count_on c_Assumed_count_on k_Assumed_count_on), ((fun_mk (st := s_Assumed_count_on) l_Assumed_count_on c_Assumed_count_on k_Assumed_count_on).binds (ps := ["self", "node", "service_born"]) fun _ _ _ _ _ _ us hl => match us, hl with | [_, _, _], _ => rfl), ⟨m_Assumed_count_on, i_Assumed_count_on, k_Assumed_count_on⟩, f_Assumed_names, (PySem.W.fnOf "names" "Assumed.names" (defArgs s_Assumed_names) (defBody s_Assumed_names) (defScope s_Assumed_names) .none kV_Assumed_names dc_Assumed_names pm_Assumed_names an_Assumed_names cd_Assumed_names ct_Assumed_names), (fun_mk (st := s_Assumed_names) l_Assumed_names c_Assumed_names k_Assumed_names), ((fun_mk (st := s_Assumed_names) l_Assumed_names c_Assumed_names k_Assumed_names).binds (ps := ["self"]) fun _ _ _ _ _ _ us hl => match us, hl with | [_], _ => rfl), ⟨m_Assumed_names, i_Assumed_names, k_Assumed_names⟩, f__law_number, (PySem.W.fnOf "_law_number" "_law_number" (defArgs s__law_number) (defBody s__law_number) (defScope s__law_number) .none kV__law_number dc__law_number pm__law_number an__law_number cd__law_number ct__law_number), (fun_mk (st := s__law_number) l__law_number c__law_number k__law_number), ((fun_mk (st := s__law_number) l__law_number c__law_number k__law_number).binds (ps := ["script", "k"]) fun _ _ _ _ _ _ us hl => match us, hl with | [_, _], _ => rfl), (PySem.W.mg_of X G g__law_number), f__law_digits, (PySem.W.fnOf "_law_digits" "_law_digits" (defArgs s__law_digits) (defBody s__law_digits) (defScope s__law_digits) .none kV__law_digits dc__law_digits pm__law_digits an__law_digits cd__law_digits ct__law_digits), (fun_mk (st := s__law_digits) l__law_digits c__law_digits k__law_digits), ((fun_mk (st := s__law_digits) l__law_digits c__law_digits k__law_digits).binds (ps := ["script", "k", "sizes"]) fun _ _ _ _ _ _ us hl => match us, hl with | [_, _, _], _ => rfl), (PySem.W.mg_of X G g__law_digits), f__law_add, (PySem.W.fnOf "_law_add" "_law_add" (defArgs s__law_add) (defBody s__law_add) (defScope s__law_add) .none kV__law_add dc__law_add pm__law_add an__law_add cd__law_add ct__law_add), (fun_mk (st := s__law_add) l__law_add c__law_add k__law_add), ((fun_mk (st := s__law_add) l__law_add c__law_add k__law_add).binds (ps := ["rows", "row"]) fun _ _ _ _ _ _ us hl => match us, hl with | [_, _], _ => rfl), (PySem.W.mg_of X G g__law_add), f__law_deed, (PySem.W.fnOf "_law_deed" "_law_deed" (defArgs s__law_deed) (defBody s__law_deed) (defScope s__law_deed) .none kV__law_deed dc__law_deed pm__law_deed an__law_deed cd__law_deed ct__law_deed), (fun_mk (st := s__law_deed) l__law_deed c__law_deed k__law_deed), ((fun_mk (st := s__law_deed) l__law_deed c__law_deed k__law_deed).binds (ps := ["assumed", "rows", "digits"]) fun _ _ _ _ _ _ us hl => match us, hl with | [_, _, _], _ => rfl), (PySem.W.mg_of X G g__law_deed), f__law_agrees, (PySem.W.fnOf "_law_agrees" "_law_agrees" (defArgs s__law_agrees) (defBody s__law_agrees) (defScope s__law_agrees) .none kV__law_agrees dc__law_agrees pm__law_agrees an__law_agrees cd__law_agrees ct__law_agrees), (fun_mk (st := s__law_agrees) l__law_agrees c__law_agrees k__law_agrees), ((fun_mk (st := s__law_agrees) l__law_agrees c__law_agrees k__law_agrees).binds (ps := ["assumed", "rows"]) fun _ _ _ _ _ _ us hl => match us, hl with | [_, _], _ => rfl), (PySem.W.mg_of X G g__law_agrees), f_law, (PySem.W.fnOf "law" "law" (defArgs s_law) (defBody s_law) (defScope s_law) .none kV_law dc_law pm_law an_law cd_law ct_law), (fun_mk (st := s_law) l_law c_law k_law), ((fun_mk (st := s_law) l_law c_law k_law).binds (ps := ["script"]) fun _ _ _ _ _ _ us hl => match us, hl with | [_], _ => rfl), (PySem.W.mg_of X G g_law), ⟨pg_Assumed, hd_Assumed, po_Assumed, sa_Assumed⟩, (PySem.W.mg_of X G gc_Assumed), ⟨mk_Assumed, m_Assumed___init__, i_Assumed___init__, kc_Assumed⟩, na_Assumed__binds, na_Assumed__revisions, t_NODE, (PySem.W.mg_of X G c_NODE), t_SIZE, (PySem.W.mg_of X G c_SIZE), t_SERVICE_BORN, (PySem.W.mg_of X G c_SERVICE_BORN), (PySem.W.mg_none_of X G n_len), (PySem.W.mg_none_of X G n_abs), (PySem.W.mg_none_of X G n_int), (PySem.W.mg_none_of X G n_sorted), (PySem.W.mg_none_of X G n_sum), (PySem.W.mg_none_of X G n_range), (PySem.W.mg_none_of X G n_min)⟩
  exact ⟨T.d_law, fun s v => .of_eq rfl, fun base _ _ => ok_law T⟩
end My
open PySem PySem.W PyProof.Rows
set_option maxHeartbeats 0 in
theorem PySem.Challenge.cw_majordomo_k71_assumed_binds_holds : PySem.Challenge.rw_majordomo_k71_assumed_binds.Holds := by
  w_on; o_law; k_head; (case hw => w_witness2)
  k_fill
  refine L2.walk_of (l := PySem.Challenge.rw_majordomo_k71_assumed_binds) (n := 63) (k := 4) (x := "script") (CX := (fun _ => L2.CX0)) (sp := fun w => My.sp_law _) rfl (by decide) rfl ⟨rfl, by decide, by decide⟩ (fun w h Y => PySem.W.kIn_of Y) ?F (fun _ _ a ns hl _ hS => ⟨a, ns, rfl, hS, hl, fun _ => rfl⟩) (fun _ _ _ _ _ h => h)
  case F =>
    intro w mg fa h KX G hmg
    refine' My.all_mk KX G hmg ?gc_Assumed ?m_Assumed___init__ ?i_Assumed___init__ ?l_Assumed___init__ ?c_Assumed___init__ ?k_Assumed___init__ ?m_Assumed_add ?i_Assumed_add ?l_Assumed_add ?c_Assumed_add ?k_Assumed_add ?m_Assumed_done ?i_Assumed_done ?l_Assumed_done ?c_Assumed_done ?k_Assumed_done ?m_Assumed_drop ?i_Assumed_drop ?l_Assumed_drop ?c_Assumed_drop ?k_Assumed_drop ?m_Assumed_settle ?i_Assumed_settle ?l_Assumed_settle ?c_Assumed_settle ?k_Assumed_settle ?m_Assumed_has ?i_Assumed_has ?l_Assumed_has ?c_Assumed_has ?k_Assumed_has ?m_Assumed_size_on ?i_Assumed_size_on ?l_Assumed_size_on ?c_Assumed_size_on ?k_Assumed_size_on ?m_Assumed_count_on ?i_Assumed_count_on ?l_Assumed_count_on ?c_Assumed_count_on ?k_Assumed_count_on ?m_Assumed_names ?i_Assumed_names ?l_Assumed_names ?c_Assumed_names ?k_Assumed_names ?g__law_number ?l__law_number ?c__law_number ?k__law_number ?g__law_digits ?l__law_digits ?c__law_digits ?k__law_digits ?g__law_add ?l__law_add ?c__law_add ?k__law_add ?g__law_deed ?l__law_deed ?c__law_deed ?k__law_deed ?g__law_agrees ?l__law_agrees ?c__law_agrees ?k__law_agrees ?g_law ?l_law ?c_law ?k_law ?pg_Assumed ?hd_Assumed ?po_Assumed ?sa_Assumed ?mk_Assumed ?kc_Assumed ?na_Assumed__binds ?na_Assumed__revisions ?c_NODE ?c_SIZE ?c_SERVICE_BORN ?n_len ?n_abs ?n_int ?n_sorted ?n_sum ?n_range ?n_min
    (case gc_Assumed => k_is); (case m_Assumed___init__ => k_is); (case i_Assumed___init__ => k_is); (case l_Assumed___init__ => k_is); (case c_Assumed___init__ => k_is); (case k_Assumed___init__ => k_is); (case m_Assumed_add => k_is); (case i_Assumed_add => k_is); (case l_Assumed_add => k_is); (case c_Assumed_add => k_is); (case k_Assumed_add => k_is); (case m_Assumed_done => k_is); (case i_Assumed_done => k_is); (case l_Assumed_done => k_is); (case c_Assumed_done => k_is); (case k_Assumed_done => k_is); (case m_Assumed_drop => k_is); (case i_Assumed_drop => k_is); (case l_Assumed_drop => k_is); (case c_Assumed_drop => k_is); (case k_Assumed_drop => k_is); (case m_Assumed_settle => k_is); (case i_Assumed_settle => k_is); (case l_Assumed_settle => k_is); (case c_Assumed_settle => k_is); (case k_Assumed_settle => k_is); (case m_Assumed_has => k_is); (case i_Assumed_has => k_is); (case l_Assumed_has => k_is); (case c_Assumed_has => k_is); (case k_Assumed_has => k_is); (case m_Assumed_size_on => k_is); (case i_Assumed_size_on => k_is); (case l_Assumed_size_on => k_is); (case c_Assumed_size_on => k_is); (case k_Assumed_size_on => k_is); (case m_Assumed_count_on => k_is); (case i_Assumed_count_on => k_is); (case l_Assumed_count_on => k_is); (case c_Assumed_count_on => k_is); (case k_Assumed_count_on => k_is); (case m_Assumed_names => k_is); (case i_Assumed_names => k_is); (case l_Assumed_names => k_is); (case c_Assumed_names => k_is); (case k_Assumed_names => k_is); (case g__law_number => k_is); (case l__law_number => k_is); (case c__law_number => k_is); (case k__law_number => k_is); (case g__law_digits => k_is); (case l__law_digits => k_is); (case c__law_digits => k_is); (case k__law_digits => k_is); (case g__law_add => k_is); (case l__law_add => k_is); (case c__law_add => k_is); (case k__law_add => k_is); (case g__law_deed => k_is); (case l__law_deed => k_is); (case c__law_deed => k_is); (case k__law_deed => k_is); (case g__law_agrees => k_is); (case l__law_agrees => k_is); (case c__law_agrees => k_is); (case k__law_agrees => k_is); (case g_law => k_is); (case l_law => k_is); (case c_law => k_is); (case k_law => k_is); (case pg_Assumed => k_is); (case hd_Assumed => k_is); (case po_Assumed => k_is); (case sa_Assumed => k_is); (case mk_Assumed => k_is); (case kc_Assumed => k_is); (case na_Assumed__binds => k_is); (case na_Assumed__revisions => k_is); (case c_NODE => k_is); (case c_SIZE => k_is); (case c_SERVICE_BORN => k_is); (case n_len => k_is); (case n_abs => k_is); (case n_int => k_is); (case n_sorted => k_is); (case n_sum => k_is); (case n_range => k_is); (case n_min => k_is)

